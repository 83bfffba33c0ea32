/- Registers of one's own: issues with the values of their rows. -/
import Derived.Test.YtkjfceajakhlfaaVF
import Derived.Test.YtkjfceajakhlfaaLE
namespace Go.Proofs.Ytkjfceajakhlfaa
set_option linter.unusedVariables false
set_option linter.unusedSimpArgs false
open Go.RowKit

theorem own_nil3 {w : World} {base : Nat} {e : TypeId} {size n : Nat} {v : Value} {xs : List Value} (h : w.ownsRow base e size v n xs) : NilOk v := by
  rcases h.2 with ⟨rfl, _⟩ | ⟨g, cap, cur, rfl, _⟩
  · intro n c e; injection e with _ _ e; exact e.symm
  · intro n c e; injection e with e; cases e
/-- An issue in its cells, with the values of its rows. -/
def cellT (r : Iss × Value × Value) : List Value := [.int .i64 r.1.d, .int .i64 r.1.l, .int .u8 r.1.k, r.2.1, r.2.2]
def cellsT (rs : List (Iss × Value × Value)) : List Value := rs.flatMap cellT
theorem cellsT_len (rs : List (Iss × Value × Value)) : (cellsT rs).length = rs.length * 5 := by
  induction rs with
  | nil => rfl
  | cons r rs ih => show (cellT r ++ cellsT rs).length = _; rw [List.length_append, ih]; simp [cellT]; omega
theorem cellsT_snoc (rs : List (Iss × Value × Value)) (r : Iss × Value × Value) : cellsT (rs ++ [r]) = cellsT rs ++ cellT r := by simp [cellsT]
theorem cellsT_append (rs qs : List (Iss × Value × Value)) : cellsT (rs ++ qs) = cellsT rs ++ cellsT qs := by simp [cellsT]
theorem cellsT_take (rs : List (Iss × Value × Value)) (k : Nat) : cellsT (rs.take k) = (cellsT rs).take (k * 5) := by
  induction k generalizing rs with
  | zero => simp [cellsT]
  | succ k ih =>
    cases rs with
    | nil => simp [cellsT]
    | cons r rs =>
      show cellT r ++ cellsT (rs.take k) = (cellT r ++ cellsT rs).take _
      rw [ih, show (k + 1) * 5 = (cellT r).length + k * 5 by simp [cellT]; omega, List.take_length_add_append]
theorem cellsT_drop (rs : List (Iss × Value × Value)) (k : Nat) : cellsT (rs.drop k) = (cellsT rs).drop (k * 5) := by
  induction k generalizing rs with
  | zero => simp [cellsT]
  | succ k ih =>
    cases rs with
    | nil => simp [cellsT]
    | cons r rs =>
      show cellsT (rs.drop k) = (cellT r ++ cellsT rs).drop _
      rw [ih, show (k + 1) * 5 = (cellT r).length + k * 5 by simp [cellT]; omega, List.drop_length_add_append]
theorem cellsT_at {rs : List (Iss × Value × Value)} {i t : Nat} (hi : i < rs.length) (ht : t < 5) : (cellsT rs)[i * 5 + t]? = (cellT rs[i])[t]? := by
  induction rs generalizing i with
  | nil => simp at hi
  | cons r rs ih =>
    show (cellT r ++ cellsT rs)[i * 5 + t]? = _
    cases i with
    | zero => rw [List.getElem?_append_left (by simp [cellT]; omega)]; simp
    | succ i => rw [List.getElem?_append_right (by simp [cellT]; omega), show (i + 1) * 5 + t - (cellT r).length = i * 5 + t by simp [cellT]; omega, ih (by simpa using hi)]; simp
theorem cellsT_one (rs : List (Iss × Value × Value)) (h : ∀ r ∈ rs, (∃ A n c, r.2.1 = .slice A n c) ∧ ∃ A n c, r.2.2 = .slice A n c) : ∀ u ∈ cellsT rs, u.oneCell' = true := by
  intro u hu
  obtain ⟨r, hr, hu⟩ := List.mem_flatMap.1 hu
  obtain ⟨⟨A, n, c, e⟩, B, m, g, e2⟩ := h r hr
  unfold cellT at hu
  rw [e, e2] at hu
  simp at hu
  rcases hu with rfl | rfl | rfl | rfl | rfl <;> rfl
/-- An issue whose rows are one's own. -/
def OwnT (w : World) (base : Nat) (r : Iss × Value × Value) : Prop := (0 ≤ r.1.k ∧ r.1.k ≤ 255) ∧ w.ownsRow base 52 2 r.2.1 r.1.items.length (cellsI r.1.items) ∧ w.ownsRow base 54 3 r.2.2 r.1.dims.length (cellsS r.1.dims)
theorem OwnT.map {w w' : World} {base base' : Nat} {r : Iss × Value × Value} (h : OwnT w base r) (f : ∀ e s v n cs, (e = 52 ∨ e = 54) → w.ownsRow base e s v n cs → w'.ownsRow base' e s v n cs) : OwnT w' base' r :=
  ⟨h.1, f _ _ _ _ _ (.inl rfl) h.2.1, f _ _ _ _ _ (.inr rfl) h.2.2⟩
theorem OwnT.after {w w' : World} {base : Nat} {r : Iss × Value × Value} (h : OwnT w base r) (hb : Below w.heap.size w w') : OwnT w' base r := h.map fun _ _ _ _ _ _ h => own_after h hb
theorem OwnT.less {w : World} {base base' : Nat} {r : Iss × Value × Value} (h : OwnT w base r) (hb : base' ≤ base) : OwnT w base' r := h.map fun _ _ _ _ _ _ h => own_less h hb
theorem OwnT.set {w : World} {base : Nat} {r : Iss × Value × Value} (h : OwnT w base r) {g : Nat} {t : TypeId} {cs : Array Value} (hl : Lies w g t cs) (h1 : 52 ≠ t) (h2 : 54 ≠ t) (i : Nat) (u : Value) : OwnT (w.setCell ⟨g, i, none⟩ u) base r :=
  h.map fun e _ _ _ _ he h => own_set h hl (by rcases he with rfl | rfl <;> assumption) i u
theorem OwnT.slices {w : World} {base : Nat} {r : Iss × Value × Value} (h : OwnT w base r) : (∃ A n c, r.2.1 = .slice A n c) ∧ ∃ A n c, r.2.2 = .slice A n c := by
  obtain ⟨A, c, g, e, -⟩ := own_form h.2.1
  obtain ⟨B, d, k, e2, -⟩ := own_form h.2.2
  exact ⟨⟨_, _, _, e⟩, _, _, _, e2⟩
/-- A register whose rows are one's own, from block 'base' on. -/
def OwnReg (w : World) (base : Nat) (v : Value) (rs : List (Iss × Value × Value)) : Prop := w.ownsRow base 45 5 v rs.length (cellsT rs) ∧ ∀ r ∈ rs, OwnT w base r
theorem OwnReg.after {w w' : World} {base : Nat} {v : Value} {rs : List (Iss × Value × Value)} (h : OwnReg w base v rs) (hb : Below w.heap.size w w') : OwnReg w' base v rs := ⟨own_after h.1 hb, fun r hr => (h.2 r hr).after hb⟩
theorem OwnReg.less {w : World} {base base' : Nat} {v : Value} {rs : List (Iss × Value × Value)} (h : OwnReg w base v rs) (hb : base' ≤ base) : OwnReg w base' v rs := ⟨own_less h.1 hb, fun r hr => (h.2 r hr).less hb⟩
theorem OwnReg.set {w : World} {base : Nat} {v : Value} {rs : List (Iss × Value × Value)} (h : OwnReg w base v rs) {g : Nat} {t : TypeId} {cs : Array Value} (hl : Lies w g t cs) (h0 : 45 ≠ t) (h1 : 52 ≠ t) (h2 : 54 ≠ t) (i : Nat) (u : Value) : OwnReg (w.setCell ⟨g, i, none⟩ u) base v rs :=
  ⟨own_set h.1 hl h0 i u, fun r hr => (h.2 r hr).set hl h1 h2 i u⟩
theorem OwnReg.nil (w : World) (base : Nat) : OwnReg w base (.slice none 0 0) [] := ⟨World.ownsRow_nil _ _ _ _, fun _ h => by cases h⟩
theorem own_apart3 {w w' : World} {base : Nat} {t e : TypeId} {size n : Nat} {v : Value} {xs : List Value} (h : w.ownsRow base t size v n xs) (hte : t ≠ e) (hap : ∀ g t cs, t ≠ e → Lies w g t cs → Lies w' g t cs) : w'.ownsRow base t size v n xs := by
  refine ⟨h.1, ?_⟩
  rcases h.2 with h0 | ⟨g, cap, cur, hv, hg, hh, hr⟩
  · exact .inl h0
  · exact .inr ⟨g, cap, cur, hv, hg, hap _ _ _ hte hh, hr⟩
theorem OwnT.apart {w w' : World} {base : Nat} {r : Iss × Value × Value} (h : OwnT w base r) (hap : ∀ g t cs, t ≠ 45 → Lies w g t cs → Lies w' g t cs) : OwnT w' base r :=
  h.map fun e _ _ _ _ he h => own_apart3 h (by rcases he with rfl | rfl <;> decide) hap
theorem OwnReg.snoc {W W' : World} {base : Nat} {v' : Value} {rs : List (Iss × Value × Value)} {r : Iss × Value × Value} (hr : ∀ r ∈ rs, OwnT W base r) (h1 : OwnT W base r) (ho : W'.ownsRow base 45 5 v' (rs.length + 1) (cellsT rs ++ cellT r)) (hap : ∀ g t cs, t ≠ 45 → Lies W g t cs → Lies W' g t cs) : OwnReg W' base v' (rs ++ [r]) := by
  refine ⟨?_, fun q hq => ?_⟩
  · rw [List.length_append, cellsT_snoc]; exact ho
  · rcases List.mem_append.1 hq with h | h
    · exact (hr q h).apart hap
    · rw [List.mem_singleton.1 h]; exact h1.apart hap
theorem OwnReg.form {w : World} {base : Nat} {v : Value} {rs : List (Iss × Value × Value)} (h : OwnReg w base v rs) : ∃ A c g, v = .slice A rs.length c ∧ rs.length ≤ c ∧ (0 < rs.length → base ≤ g ∧ A = some ⟨g, 0, none⟩ ∧ IssRow w g 0 (rs.map (·.1)) (fun i => (rs.getD i (zeroI, .slice none 0 0, .slice none 0 0)).2.1) (fun i => (rs.getD i (zeroI, .slice none 0 0, .slice none 0 0)).2.2)) := by
  have hf := own_form h.1
  rcases h.1.2 with ⟨rfl, h0⟩ | ⟨g, cap, cur, rfl, hg, hh, hc, -⟩
  · exact ⟨none, 0, 0, by rw [h0], by omega, fun h => by omega⟩
  · refine ⟨_, cap, g, rfl, hc, fun h0 => ⟨hg, rfl, fun i hi => ?_⟩⟩
    obtain ⟨A, c, g2, e, hf⟩ := hf
    injection e with e1 e2 e3
    obtain ⟨-, e4, cur2, hl, hcur⟩ := hf h0
    rw [e4] at e1
    injection e1 with e1
    injection e1 with e1
    subst e1
    have hi2 : i < rs.length := by simpa using hi
    have hgd : rs.getD i (zeroI, .slice none 0 0, .slice none 0 0) = rs[i] := by simp [List.getD_eq_getElem?_getD, List.getElem?_eq_getElem hi2]
    have hcell : ∀ t, t < 5 → w.cell? ⟨g, 0 + i * 5 + t, none⟩ = (cellT rs[i])[t]? := fun t ht => by
      rw [hl.cell, Nat.zero_add, hcur _ (by omega), cellsT_at hi2 ht]
    obtain ⟨hk, h1, h2⟩ := h.2 rs[i] (List.getElem_mem hi2)
    have e1 : (rs.map (·.1))[i] = rs[i].1 := by simp
    simp only [e1, hgd]
    exact ⟨hcell 0 (by omega), hcell 1 (by omega), hcell 2 (by omega), hcell 3 (by omega), hcell 4 (by omega), hk, items_of_own h1, dims_of_own h2, own_nil3 h1, own_nil3 h2⟩
theorem OwnReg.at_ {w : World} {base : Nat} {v : Value} {rs : List (Iss × Value × Value)} (h : OwnReg w base v rs) : IssuesAt w v (rs.map (·.1)) := by
  obtain ⟨A, c, g, rfl, -, hf⟩ := h.form
  refine ⟨A, c, g, 0, by rw [List.length_map], fun h0 => (hf (by simpa using h0)).2.1, fun i hi => ⟨_, _, (hf (by simp at hi; omega)).2.2 i hi⟩⟩
theorem OwnReg.reg {w : World} {base : Nat} {v : Value} {rs : List (Iss × Value × Value)} (h : OwnReg w base v rs) (hl : rs.length ≤ 1000) (hs : ∀ x ∈ rs.map (·.1), x.items.length ≤ 1000 ∧ x.dims.length ≤ 1000) : RegAt w v (rs.map (·.1)) := ⟨h.at_, by simpa using hl, hs⟩
/-- A slice that has the room that it says. -/
def CapOk (v : Value) : Prop := ∀ A n c, v = .slice A n c → n ≤ c
theorem OwnReg.cap {w : World} {base : Nat} {v : Value} {rs : List (Iss × Value × Value)} (h : OwnReg w base v rs) : CapOk v := by
  obtain ⟨A, c, g, rfl, hc, -⟩ := h.form
  intro A' n' c' e
  injection e with e1 e2 e3
  omega
/-- The rest of a list of issues. -/
theorem tail_any {A : Option Addr} {n c b o : Nat} (h : 0 < n) (hc : n ≤ c) (hA : A = some ⟨b, o, none⟩) :
    ∃ A' : Option Addr, (∀ W : World, (Instr.slice 22 (.slice A n c) (some (.int .i64 1)) none none).run Try.prog W = .ok (.slice A' (n - 1) (c - 1)) W) ∧ (1 < n → A' = some ⟨b, o + 5, none⟩) := by
  subst hA
  have hu : Try.prog.underlying 22 = some (.slice (Try.prog.elem 22)) := by kernel_rfl
  have hz : ∀ W : World, (sizeOf (Try.prog.elem 22)).run Try.prog W = .ok 5 W := fun W => by kernel_rfl
  refine ⟨if c = 1 then some ⟨b, o, none⟩ else (some (⟨b, o, none⟩ : Addr)).map (·.add (1 * 5)), fun W => ?_, fun h1 => ?_⟩
  · rw [run_slice_l W _ _ _ _ hu .i64 1 (by omega) (by omega), hz]
    rfl
  · rw [if_neg (by omega)]
    rfl
theorem sCopied_v {xs : List Iss} {w : World} {b off : Nat} {vi vd : Nat → Value} (hc : IssRow w b off xs vi vd) (hs : ∀ x ∈ xs, x.items.length ≤ 1000 ∧ x.dims.length ≤ 1000) (k : Nat) (hk : k < xs.length) : ∀ W, Below w.heap.size w W → Calls Try.prog 70 #[.agg #[.int .i64 (xs[k].d), .int .i64 (xs[k].l), .int .u8 (xs[k].k), vi k, vd k]] W fun e w' => ∃ v, e = .returned v ∧ OwnIss w' W.heap.size v xs[k] ∧ Below W.heap.size W w' := by
  intro W hW
  obtain ⟨-, -, -, -, -, hkk, hit, hdt, hn1, hn2⟩ := hc k hk
  exact copied_any xs[k] (vi k) (vd k) W hkk (hs _ (List.getElem_mem hk)).1 (hs _ (List.getElem_mem hk)).2 (hit.after hW) (hdt.after hW) hn1 hn2
def lenV : Value → Nat
  | .slice _ n _ => n
  | _ => 0
end Go.Proofs.Ytkjfceajakhlfaa
