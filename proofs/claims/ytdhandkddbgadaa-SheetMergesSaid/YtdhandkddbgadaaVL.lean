/- For the reference's Merge: what is kept beside a row of issues that grows; issues put in, one by one. -/
import Derived.Test.YtdhandkddbgadaaVJ
import Derived.Test.YtdhandkddbgadaaVK
namespace Go.Proofs.Ytdhandkddbgadaa
set_option linter.unusedVariables false
set_option linter.unusedSimpArgs false
open Go.RowKit

theorem own_emptyX (u : World) (base k : Nat) (hk : k = u.heap.size) (hb : base ≤ k) : (u.alloc (.cells #[] 45)).ownsRow base 45 5 (.slice (some ⟨k, 0, none⟩) 0 0) 0 [] := by
  subst hk
  exact ⟨rfl, .inr ⟨u.heap.size, 0, #[], rfl, hb, World.alloc_heap_new u _, Nat.le_refl _, by unfold maxLen; omega, rfl, rfl⟩⟩
theorem own_newsX {w : World} {base : Nat} {e : TypeId} {size n c : Nat} {A : Option Addr} {xs : List Value} (h : w.ownsRow base e size (.slice A n c) n xs) :
    (A = none → n = 0 ∧ c = 0 ∧ xs = []) ∧ (∀ ad, A = some ad → ∀ W, Below w.heap.size w W → ∀ j u, xs[j]? = some u → W.cell? (ad.add j) = some u) := by
  have hl := h.1
  rcases h.2 with ⟨e1, h0⟩ | ⟨g, cap, cur, e1, hg, hh, hc, hx, hs, ht⟩
  · injection e1 with e1 e2 e3
    subst e1 e3 h0
    have hx : xs = [] := List.length_eq_zero_iff.1 (by simpa using hl)
    exact ⟨fun _ => ⟨rfl, rfl, hx⟩, fun _ h => by cases h⟩
  · injection e1 with e1 e2 e3
    subst e1 e3
    refine ⟨(fun h => by cases h), fun ad had W hW j u hu => ?_⟩
    injection had with had
    subst had
    have hlie : Lies w g e cur := hh
    have hj : j < xs.length := (List.getElem?_eq_some_iff.1 hu).1
    rw [hl] at hj
    rw [add_off, Nat.zero_add, (hlie.after hW).cell]
    rw [← ht, List.getElem?_take_of_lt hj] at hu
    simpa using hu
/-- What stays while a row of issues grows: cells of other types, and the rows of the issues. -/
def Keep (W : World) (base : Nat) (ls : List (Nat × TypeId × Array Value)) (rs : List (Iss × Value × Value)) : Prop :=
  (∀ l ∈ ls, l.2.1 ≠ 45 ∧ Lies W l.1 l.2.1 l.2.2) ∧ ∀ r ∈ rs, OwnT W base r
theorem Keep.after {W W' : World} {base : Nat} {ls : List (Nat × TypeId × Array Value)} {rs : List (Iss × Value × Value)} (h : Keep W base ls rs) (hb : Below W.heap.size W W') : Keep W' base ls rs :=
  ⟨fun l hl => ⟨(h.1 l hl).1, (h.1 l hl).2.after hb⟩, fun r hr => (h.2 r hr).after hb⟩
theorem Keep.apart {W W' : World} {base : Nat} {ls : List (Nat × TypeId × Array Value)} {rs : List (Iss × Value × Value)} (h : Keep W base ls rs) (hap : ∀ g t cs, t ≠ 45 → Lies W g t cs → Lies W' g t cs) : Keep W' base ls rs :=
  ⟨fun l hl => ⟨(h.1 l hl).1, hap _ _ _ (h.1 l hl).1 (h.1 l hl).2⟩, fun r hr => (h.2 r hr).apart hap⟩
/-- The issues behind so many of the other register's. -/
def refK (xs ys : List Iss) (i : Nat) : List Iss := (ys.take i).foldl (stepMg xs) xs
theorem refK_step {xs ys : List Iss} {i : Nat} (h : i < ys.length) : refK xs ys (i + 1) = if hasN xs ys[i].d ys[i].l = true then refK xs ys i else insL (refK xs ys i) ys[i] := by
  unfold refK
  rw [List.take_succ_eq_append_getElem h, List.foldl_append]
  show stepMg xs _ ys[i] = _
  unfold stepMg
  by_cases e : ∃ x ∈ xs, isAs x ys[i]
  · rw [if_pos e, if_pos (hasN_iff.2 e)]
  · rw [if_neg e, if_neg (fun h2 => e (hasN_iff.1 h2))]
theorem refK_all {xs ys : List Iss} (hx : rightB zeroI xs = true) (hy : rightB zeroI ys = true) : refK xs ys ys.length = joinL xs ys := by
  unfold refK
  rw [List.take_length]
  exact (join_ref hx hy).symm
theorem insL_map {rs : List (Iss × Value × Value)} {y : Iss} {a b : Value} {k : Nat} (hk : posL (rs.map (·.1)) y = k) : (rs.take k ++ [(y, a, b)] ++ rs.drop k).map (·.1) = insL (rs.map (·.1)) y := by
  unfold insL
  rw [hk]
  simp [List.map_take, List.map_drop]
/-- An issue put in. -/
theorem reg_put {W : World} {base k : Nat} {v : Value} {rs : List (Iss × Value × Value)} {r : Iss × Value × Value} (hk : k ≤ rs.length) (ho : W.ownsRow base 45 5 v (k + 1 + (rs.length - k)) ((cellsT rs).take (k * 5) ++ cellT r ++ cellsT (rs.drop k))) (hr : ∀ r ∈ rs, OwnT W base r) (h1 : OwnT W base r) : OwnReg W base v (rs.take k ++ [r] ++ rs.drop k) := by
  refine ⟨?_, fun q hq => ?_⟩
  · have e1 : (rs.take k ++ [r] ++ rs.drop k).length = k + 1 + (rs.length - k) := by simp; omega
    have e2 : cellsT (rs.take k ++ [r] ++ rs.drop k) = (cellsT rs).take (k * 5) ++ cellT r ++ cellsT (rs.drop k) := by
      rw [cellsT_append, cellsT_snoc, cellsT_take]
    rw [e1, e2]
    exact ho
  · rcases List.mem_append.1 hq with h | h
    · rcases List.mem_append.1 h with h | h
      · exact hr q (List.mem_of_mem_take h)
      · rw [List.mem_singleton.1 h]; exact h1
    · exact hr q (List.mem_of_mem_drop h)
theorem rFind_tell {A : Option Addr} {c b off : Nat} {xs : List Iss} {vi vd : Nat → Value} (d l : Int) (w : World) (hl : xs.length ≤ 1000) (hA : 0 < xs.length → A = some ⟨b, off, none⟩) (hc : IssRow w b off xs vi vd) :
    Calls Try.prog 71 #[.agg #[.slice A xs.length c], .agg #[.int .i64 d, .int .i64 l]] w fun e w' => (∃ (d' l' k' : Int) (A1 : Option Addr) (n1 c1 : Nat) (A2 : Option Addr) (n2 c2 : Nat), e = .returned (.tuple #[.agg #[.int .i64 d', .int .i64 l', .int .u8 k', .slice A1 n1 c1, .slice A2 n2 c2], .bool (hasN xs d l)])) ∧ Below w.heap.size w w' := by
  refine (rFind_any A c b off xs vi vd d l w hl hA hc).mono fun e w' h => ?_
  cases hh : hasN xs d l with
  | true =>
    obtain ⟨he, hb⟩ := FindP.yes h hh
    have hq : idxN xs d l < xs.length := of_decide_eq_true hh
    obtain ⟨⟨A1, n1, c1, e1⟩, A2, n2, c2, e2⟩ := hc.slices hq
    rw [e1, e2] at he
    exact ⟨⟨_, _, _, _, _, _, _, _, _, he⟩, hb⟩
  | false =>
    obtain ⟨he, hb⟩ := FindP.no h hh
    exact ⟨⟨0, 0, 0, none, 0, 0, none, 0, 0, he⟩, hb⟩
theorem Keep.three {W : World} {base a b c : Nat} {t : TypeId} {x y z : Array Value} {rs : List (Iss × Value × Value)} (h : Keep W base [(a, t, x), (b, t, y), (c, t, z)] rs) : Lies W a t x ∧ Lies W b t y ∧ Lies W c t z :=
  ⟨(h.1 _ (List.mem_cons_self ..)).2, (h.1 _ (List.mem_cons_of_mem _ (List.mem_cons_self ..))).2, (h.1 _ (List.mem_cons_of_mem _ (List.mem_cons_of_mem _ (List.mem_cons_self ..)))).2⟩
theorem Keep.put {W : World} {base a : Nat} {t : TypeId} {x : Array Value} {ls : List (Nat × TypeId × Array Value)} {rs qs : List (Iss × Value × Value)} (h : Keep W base ls rs) (ht : t ≠ 45) (hl : Lies W a t x) (hq : ∀ r ∈ qs, OwnT W base r) : Keep W base ((a, t, x) :: ls) qs :=
  ⟨fun l hm => by
    rcases List.mem_cons.1 hm with rfl | hm
    · exact ⟨ht, hl⟩
    · exact h.1 l hm, hq⟩
theorem Keep.pull {W : World} {base a : Nat} {t : TypeId} {x : Array Value} {ls : List (Nat × TypeId × Array Value)} {rs : List (Iss × Value × Value)} (h : Keep W base ((a, t, x) :: ls) rs) : Lies W a t x ∧ Keep W base ls [] ∧ ∀ r ∈ rs, OwnT W base r :=
  ⟨(h.1 _ (List.mem_cons_self ..)).2, ⟨fun l hl => h.1 l (List.mem_cons_of_mem _ hl), fun _ h => by cases h⟩, h.2⟩
theorem Keep.set3 {W : World} {base a b c g : Nat} {t : TypeId} {x y z : Array Value} (h : Keep W base [(a, t, x), (b, t, y), (c, t, z)] []) (h1 : ¬ g = a ∧ ¬ g = b ∧ ¬ g = c) (i : Nat) (u : Value) : Keep (W.setCell ⟨g, i, none⟩ u) base [(a, t, x), (b, t, y), (c, t, z)] [] := by
  obtain ⟨k1, k2, k3⟩ := h.three
  have ht := (h.1 _ (List.mem_cons_self ..)).1
  refine ⟨fun l hl => ?_, fun _ h => by cases h⟩
  simp only [List.mem_cons, List.not_mem_nil, or_false] at hl
  rcases hl with rfl | rfl | rfl
  · exact ⟨ht, k1.other (p := ⟨g, i, none⟩) (fun e => h1.1 e.symm) u⟩
  · exact ⟨ht, k2.other (p := ⟨g, i, none⟩) (fun e => h1.2.1 e.symm) u⟩
  · exact ⟨ht, k3.other (p := ⟨g, i, none⟩) (fun e => h1.2.2 e.symm) u⟩
theorem OwnReg.cells {w : World} {base c : Nat} {A : Option Addr} {rs : List (Iss × Value × Value)} (h : OwnReg w base (.slice A rs.length c) rs) {k : Nat} (hk : k < rs.length) : ∃ (g : Nat) (A1 : Option Addr) (n1 c1 : Nat) (A2 : Option Addr) (n2 c2 : Nat), A = some ⟨g, 0, none⟩ ∧ ∀ W, Below w.heap.size w W →
    W.cell? ⟨g, k * 5, none⟩ = some (.int .i64 (rs[k].1.d)) ∧ W.cell? ⟨g, k * 5 + 1, none⟩ = some (.int .i64 (rs[k].1.l)) ∧ W.cell? ⟨g, k * 5 + 2, none⟩ = some (.int .u8 rs[k].1.k) ∧ W.cell? ⟨g, k * 5 + 3, none⟩ = some (.slice A1 n1 c1) ∧ W.cell? ⟨g, k * 5 + 4, none⟩ = some (.slice A2 n2 c2) := by
  obtain ⟨A', c', g, e, hf⟩ := own_form h.1
  injection e with e1 e2 e3
  subst e1 e3
  obtain ⟨-, rfl, cur, hl, hcur⟩ := hf (by omega)
  obtain ⟨⟨A1, n1, c1, q1⟩, A2, n2, c2, q2⟩ := (h.2 rs[k] (List.getElem_mem hk)).slices
  refine ⟨g, A1, n1, c1, A2, n2, c2, rfl, fun W hW => ?_⟩
  have hcell : ∀ t, t < 5 → W.cell? ⟨g, k * 5 + t, none⟩ = (cellT rs[k])[t]? := fun t ht => by
    rw [(hl.after hW).cell, hcur _ (by omega), cellsT_at hk ht]
  have h3 := hcell 3 (by omega)
  have h4 := hcell 4 (by omega)
  unfold cellT at h3 h4
  rw [q1, q2] at h3 h4
  exact ⟨hcell 0 (by omega), hcell 1 (by omega), hcell 2 (by omega), h3, h4⟩
theorem pos_less {l : List Iss} {y : Iss} {k p : Nat} (hp : posL l y = p) (hk : k < l.length) (hkp : k ≤ p) : decide (l[k].d < y.d ∨ l[k].d = y.d ∧ l[k].l < y.l) = decide (k < p) := by
  subst hp
  rw [decide_eq_decide]
  by_cases e : k < posL l y
  · have := posL_lt e hk
    unfold ltN at this
    simp only [e, iff_true]
    exact this
  · obtain rfl : k = posL l y := by omega
    have := posL_at hk
    unfold ltN at this
    simp only [e, iff_false]
    exact this
theorem add_zero5 (a : Addr) : a.add (0 * 5) = a := by
  unfold Addr.add
  simp
end Go.Proofs.Ytdhandkddbgadaa
