/- For the reference's Merge: a row cut before an issue, and from it on; appends whose arm tells what grew. -/
import Derived.Test.YtkjfceajakhlfaaVG
import Derived.Test.YtkjfceajakhlfaaK20
namespace Go.Proofs.Ytkjfceajakhlfaa
set_option linter.unusedVariables false
set_option linter.unusedSimpArgs false
open Go.RowKit

theorem add_off (g o j : Nat) : (⟨g, o, none⟩ : Addr).add j = ⟨g, o + j, none⟩ := by
  unfold Addr.add
  by_cases h : j = 0
  · subst h; simp
  · simp [h]
theorem own_take {w : World} {base : Nat} {e : TypeId} {size n c k : Nat} {A : Option Addr} {xs : List Value} (h : w.ownsRow base e size (.slice A n c) n xs) (hk : k ≤ n) : w.ownsRow base e size (.slice A k c) k (xs.take (k * size)) := by
  have hm : k * size ≤ n * size := Nat.mul_le_mul_right _ hk
  refine ⟨by rw [List.length_take, h.1]; omega, ?_⟩
  rcases h.2 with ⟨e1, h0⟩ | ⟨g, cap, cur, e1, hg, hh, hc, hx, hs, ht⟩
  · injection e1 with e1 e2 e3
    subst e1 e3
    obtain rfl : k = 0 := by omega
    exact .inl ⟨rfl, rfl⟩
  · injection e1 with e1 e2 e3
    subst e1 e3
    refine .inr ⟨g, c, cur, rfl, hg, hh, by omega, hx, hs, ?_⟩
    rw [← ht, List.take_take, Nat.min_eq_left hm]
/-- The row from issue k on. -/
theorem drop_any {A : Option Addr} {n c k : Nat} (hk : k ≤ n) : ∀ W : World, (Instr.slice 22 (.slice A n c) (some (.int .i64 k)) none none).run Try.prog W = .ok (.slice (if c = k then A else A.map (·.add (k * 5))) (n - k) (c - k)) W := fun W => by
  have hu : Try.prog.underlying 22 = some (.slice (Try.prog.elem 22)) := by kernel_rfl
  have hz : ∀ W : World, (sizeOf (Try.prog.elem 22)).run Try.prog W = .ok 5 W := fun W => by kernel_rfl
  rw [run_slice_l W _ _ _ _ hu .i64 k (by omega) (by omega), hz]
  rfl
theorem upto_any {A : Option Addr} {n c k : Nat} (hk : k ≤ c) (hA : ∀ a, A = some a → a.add (0 * 5) = a) : ∀ W : World, (Instr.slice 22 (.slice A n c) none (some (.int .i64 k)) none).run Try.prog W = .ok (.slice A k c) W := fun W => by
  have hu : Try.prog.underlying 22 = some (.slice (Try.prog.elem 22)) := by kernel_rfl
  have hz : ∀ W : World, (sizeOf (Try.prog.elem 22)).run Try.prog W = .ok 5 W := fun W => by kernel_rfl
  rw [run_slice_h W _ _ _ _ hu .i64 k (by omega) (by omega), hz]
  have e : sliced A 0 (k : Int).toNat c 5 = .slice A k c := by
    unfold sliced
    have e1 : (if c = 0 then A else A.map (·.add (0 * 5))) = A := by
      split
      · rfl
      · cases A with
        | none => rfl
        | some a => rw [Option.map_some, hA a rfl]
    rw [e1]
    simp
  simp only [Result.andThen]
  rw [e]
/-- What lies from issue k on, to be appended. -/
theorem rest_news {w : World} {base : Nat} {A : Option Addr} {c k : Nat} {rs : List (Iss × Value × Value)} (h : OwnReg w base (.slice A rs.length c) rs) (hk : k ≤ rs.length) :
    ((if c = k then A else A.map (·.add (k * 5))) = none → rs.length - k = 0 ∧ c - k = 0 ∧ cellsT (rs.drop k) = []) ∧
    (∀ ad, (if c = k then A else A.map (·.add (k * 5))) = some ad → ∀ W, Below w.heap.size w W → ∀ j u, (cellsT (rs.drop k))[j]? = some u → W.cell? (ad.add j) = some u) := by
  rcases h.1.2 with ⟨e1, h0⟩ | ⟨g, cap, cur, e1, hg, hh, hc, hx, hs, ht⟩
  · injection e1 with e1 e2 e3
    subst e1 e3
    obtain rfl : rs = [] := List.length_eq_zero_iff.1 h0
    obtain rfl : k = 0 := by simpa using hk
    exact ⟨fun _ => ⟨rfl, rfl, rfl⟩, fun ad hd => by simp at hd⟩
  · injection e1 with e1 e2 e3
    subst e1 e3
    refine ⟨fun hn => by split at hn <;> simp at hn, fun ad had W hW j u hu => ?_⟩
    have hj : j < (cellsT (rs.drop k)).length := (List.getElem?_eq_some_iff.1 hu).1
    rw [cellsT_len, List.length_drop] at hj
    rw [if_neg (by omega), Option.map_some] at had
    injection had with had
    subst had
    have hl : Lies w g 45 cur := hh
    have e2 : ((⟨g, 0, none⟩ : Addr).add (k * 5)).add j = ⟨g, k * 5 + j, none⟩ := by rw [add_off, add_off, Nat.zero_add]
    rw [e2, (hl.after hW).cell]
    rw [cellsT_drop, List.getElem?_drop] at hu
    rw [← ht] at hu
    have hlt : k * 5 + j < rs.length * 5 := by omega
    rw [List.getElem?_take_of_lt hlt] at hu
    simpa using hu
theorem own_apart_lt {W W' : World} {base2 : Nat} {e : TypeId} {size n : Nat} {v : Value} {xs : List Value} {row : Option Nat} (h : W.ownsRow base2 e size v n xs) (hg : W.grownBy W' row) (hr : ∀ r, row = some r → r < base2) : W'.ownsRow base2 e size v n xs := by
  refine own_at h fun k hk => ?_
  have hlt := h.lt k hk
  exact hg.block k hlt.2 (fun he => by have := hr k he.symm; omega)
theorem wpList_row2 {ops : Array Oper} {rest : List Oper} {o : Oper} {a : Act} {w : World} {Q : Exit → Act → World → Prop} (hgd : o.guard = none) (s x : Operand) (t : TypeId)
    (ho : o.op = .call { callee := .builtin .append, args := #[s, x], argTypes := #[t, t] })
    (base : Nat) (e : TypeId) (i : TypeInfo) (z : Value) (size bytes : Nat) (ht : Try.prog.underlying t = some (.slice e)) (hi : Try.prog.info? e = some i) (hz : i.zero = some z)
    (hsize : i.size = size) (hby : i.bytes = bytes) (hzs : z.cells.size = size) (hsz : 0 < size)
    (v : Value) (n : Nat) (xs : List Value) (hs : a.eval s = v) (hown : w.ownsRow base e size v n xs)
    (A : Option Addr) (m c : Nat) (news : List Value) (hx : a.eval x = .slice A m c) (hN : A = none → m = 0 ∧ c = 0 ∧ news = []) (hl : news.length = m * size) (hnews : ∀ ad, A = some ad → ∀ j u, news[j]? = some u → w.cell? (ad.add j) = some u) (h1 : ∀ u ∈ news, u.oneCell' = true)
    (h63 : n + m ≤ maxLen) (hbytes : (n + m) * bytes ≤ 140737488355328) (hbase : base ≤ w.heap.size)
    (h : ∀ v' w', w'.ownsRow base e size v' (n + m) (xs ++ news) → (∀ g t cs, t ≠ e → Lies w g t cs → Lies w' g t cs) → (∀ w0, Below base w0 w → base ≤ w0.heap.size → Below base w0 w') → w.grownBy w' v.ownBlock → wpList Try.prog ops Q rest (a.put o.dst v') w') :
    wpList Try.prog ops Q (o :: rest) a w := by
  refine wpList_plain hgd fun K hK => ?_
  cases A with
  | none =>
    obtain ⟨rfl, rfl, rfl⟩ := hN rfl
    have hrun := run_append_owned_none (P := Try.prog) (w := w) base t o.type e i size ht hi v n xs hown
    unfold Oper.wp
    simp [execOp, ho, resolve, invoke, builtin, hs, hx, hrun, Result.andThen]
    exact hK _ _ (h v w (by simpa using hown) (fun _ _ _ _ h => h) (fun _ h _ => h) ⟨rfl, rfl, rfl, Nat.le_refl _, fun _ _ _ => rfl⟩)
  | some ad =>
    obtain ⟨v', w', hr, h2, h3, -⟩ := run_append_own_at (P := Try.prog) w base t o.type e i z size bytes ht hi hz hsize hby hzs hsz v n xs hown ad m c news hl (hnews ad rfl) h1 h63 hbytes hbase
    unfold Oper.wp execOp
    simp only [ho, resolve, invoke, builtin, Sem.run_bind, Sem.run_pure, Result.andThen_ok, List.map_toArray, List.map_cons, List.map_nil, hs, hx, hr]
    exact hK _ _ (h v' w' h2 (fun g t cs he hl => lies_apart hl hown he h3) (fun w0 hb hB => below_grown hb hB hown h3) h3)
theorem step_row2 {ops : Array Oper} {o : Oper} {a : Act} {w : World} {K : Act → World → Prop} {Q : Exit → Act → World → Prop} {E : Prop} (hgd : o.guard = none) (s x : Operand) (t : TypeId)
    (ho : o.op = .call { callee := .builtin .append, args := #[s, x], argTypes := #[t, t] })
    (base : Nat) (e : TypeId) (i : TypeInfo) (z : Value) (size bytes : Nat) (ht : Try.prog.underlying t = some (.slice e)) (hi : Try.prog.info? e = some i) (hz : i.zero = some z)
    (hsize : i.size = size) (hby : i.bytes = bytes) (hzs : z.cells.size = size) (hsz : 0 < size)
    (v : Value) (n : Nat) (xs : List Value) (hs : a.eval s = v) (hown : w.ownsRow base e size v n xs)
    (A : Option Addr) (m c : Nat) (news : List Value) (hx : a.eval x = .slice A m c) (hN : A = none → m = 0 ∧ c = 0 ∧ news = []) (hl : news.length = m * size) (hnews : ∀ ad, A = some ad → ∀ j u, news[j]? = some u → w.cell? (ad.add j) = some u) (h1 : ∀ u ∈ news, u.oneCell' = true)
    (h63 : n + m ≤ maxLen) (hbytes : (n + m) * bytes ≤ 140737488355328) (hbase : base ≤ w.heap.size)
    (h : ∀ v' w', w'.ownsRow base e size v' (n + m) (xs ++ news) → (∀ g t cs, t ≠ e → Lies w g t cs → Lies w' g t cs) → (∀ w0, Below base w0 w → base ≤ w0.heap.size → Below base w0 w') → w.grownBy w' v.ownBlock → K (a.put o.dst v') w') :
    if Region.wanted o (yielded ops a.tmps) = true then Oper.wp Try.prog o a w K Q else E := by
  have hw : Region.wanted o (yielded ops a.tmps) = true := by simp [Region.wanted, hgd]
  rw [if_pos hw]
  cases A with
  | none =>
    obtain ⟨rfl, rfl, rfl⟩ := hN rfl
    have hrun := run_append_owned_none (P := Try.prog) (w := w) base t o.type e i size ht hi v n xs hown
    unfold Oper.wp
    simp [execOp, ho, resolve, invoke, builtin, hs, hx, hrun, Result.andThen]
    exact h v w (by simpa using hown) (fun _ _ _ _ h => h) (fun _ h _ => h) ⟨rfl, rfl, rfl, Nat.le_refl _, fun _ _ _ => rfl⟩
  | some ad =>
    obtain ⟨v', w', hr, h2, h3, -⟩ := run_append_own_at (P := Try.prog) w base t o.type e i z size bytes ht hi hz hsize hby hzs hsz v n xs hown ad m c news hl (hnews ad rfl) h1 h63 hbytes hbase
    unfold Oper.wp execOp
    simp only [ho, resolve, invoke, builtin, Sem.run_bind, Sem.run_pure, Result.andThen_ok, List.map_toArray, List.map_cons, List.map_nil, hs, hx, hr]
    exact h v' w' h2 (fun g t cs he hl => lies_apart hl hown he h3) (fun w0 hb hB => below_grown hb hB hown h3) h3
end Go.Proofs.Ytkjfceajakhlfaa
