/- The reference: TwinIssue. -/
import Derived.Test.YtmhlbdighceogaaGreatLE
import Derived.Deep.AppendLies
import Derived.Deep.RegionLaw
import Derived.Deep.DeepCutAuto
namespace Go.Proofs.YtmhlbdighceogaaGreat
set_option linter.unusedVariables false
set_option linter.unusedSimpArgs false
open Go.RowKit

theorem own_emptyI (u : World) (base k : Nat) (hk : k = u.heap.size) (hb : base ≤ k) : (u.alloc (.cells #[] 50)).ownsRow base 50 2 (.slice (some ⟨k, 0, none⟩) 0 0) 0 [] := by
  subst hk
  exact World.ownsRow_made (base := base) (e := 50) (size := 2) u #[] 0 hb (by decide) rfl
theorem own_emptyS (u : World) (base k : Nat) (hk : k = u.heap.size) (hb : base ≤ k) : (u.alloc (.cells #[] 105)).ownsRow base 105 3 (.slice (some ⟨k, 0, none⟩) 0 0) 0 [] := by
  subst hk
  exact World.ownsRow_made (base := base) (e := 105) (size := 3) u #[] 0 hb (by decide) rfl
/-- A row stays when a row of another type grows. -/
theorem own_apart {W W' : World} {base base2 : Nat} {e e2 : TypeId} {size n size2 n2 : Nat} {v v2 : Value} {xs xs2 : List Value} (h : W.ownsRow base e size v n xs) (h2 : W.ownsRow base2 e2 size2 v2 n2 xs2) (he : e ≠ e2) (hg : W.grownBy W' v2.ownBlock) : W'.ownsRow base e size v n xs := by
  refine own_at h fun g hk => ?_
  rcases h.2 with ⟨rfl, _⟩ | ⟨g', cap, cur, rfl, _, hh, _⟩
  · simp [Value.ownBlock] at hk
  · obtain rfl : g' = g := by simpa [Value.ownBlock] using hk
    refine hg.block g' (Array.getElem?_eq_some_iff.1 hh).1 ?_
    intro hk2
    rcases h2.2 with ⟨rfl, _⟩ | ⟨g2, cap2, cur2, rfl, _, hh2, _⟩
    · simp [Value.ownBlock] at hk2
    · obtain rfl : g' = g2 := by simpa [Value.ownBlock] using hk2
      rw [hh] at hh2
      injection hh2 with hh2
      injection hh2 with _ ht
      exact he ht
theorem lies_apart {W W' : World} {base2 : Nat} {e2 t : TypeId} {size2 n2 g : Nat} {v2 : Value} {xs2 : List Value} {cs : Array Value} (h : Lies W g t cs) (h2 : W.ownsRow base2 e2 size2 v2 n2 xs2) (he : t ≠ e2) (hg : W.grownBy W' v2.ownBlock) : Lies W' g t cs := by
  refine (hg.block g h.lt ?_).trans h
  intro hk2
  rcases h2.2 with ⟨rfl, _⟩ | ⟨g2, cap2, cur2, rfl, _, hh2, _⟩
  · simp [Value.ownBlock] at hk2
  · obtain rfl : g = g2 := by simpa [Value.ownBlock] using hk2
    have h3 := h
    unfold Lies at h3
    rw [hh2] at h3
    injection h3 with h3
    injection h3 with _ ht
    exact he ht.symm
theorem below_grown {B : Nat} {w W W' : World} {e2 : TypeId} {size2 n2 : Nat} {v2 : Value} {xs2 : List Value} (h : Below B w W) (hB : B ≤ w.heap.size) (h2 : W.ownsRow B e2 size2 v2 n2 xs2) (hg : W.grownBy W' v2.ownBlock) : Below B w W' := by
  refine Below.grown h hg (Nat.le_trans hB h.size) fun r e => ?_
  rcases h2.2 with ⟨rfl, _⟩ | ⟨g2, cap2, cur2, rfl, hb, _⟩
  · simp [Value.ownBlock] at e
  · obtain rfl : g2 = r := by simpa [Value.ownBlock] using e
    exact hb

/-- A row grows by another one's cells, nil or not, empty or not. -/
theorem step_row {ops : Array Oper} {o : Oper} {a : Act} {w : World} {K : Act → World → Prop} {Q : Exit → Act → World → Prop} {E : Prop} (hgd : o.guard = none) (s x : Operand) (t : TypeId)
    (ho : o.op = .call { callee := .builtin .append, args := #[s, x], argTypes := #[t, t] })
    (base : Nat) (e : TypeId) (i : TypeInfo) (z : Value) (size bytes : Nat) (ht : Tryz.prog.underlying t = some (.slice e)) (hi : Tryz.prog.info? e = some i) (hz : i.zero = some z)
    (hsize : i.size = size) (hby : i.bytes = bytes) (hzs : z.cells.size = size) (hsz : 0 < size)
    (v : Value) (n : Nat) (xs : List Value) (hs : a.eval s = v) (hown : w.ownsRow base e size v n xs)
    (A : Option Addr) (m c : Nat) (news : List Value) (hx : a.eval x = .slice A m c) (hN : A = none → m = 0 ∧ c = 0 ∧ news = []) (hl : news.length = m * size) (hnews : ∀ ad, A = some ad → ∀ j u, news[j]? = some u → w.cell? (ad.add j) = some u) (h1 : ∀ u ∈ news, u.oneCell' = true)
    (h63 : n + m ≤ maxLen) (hbytes : (n + m) * bytes ≤ 140737488355328) (hbase : base ≤ w.heap.size)
    (h : ∀ v' w', w'.ownsRow base e size v' (n + m) (xs ++ news) → (∀ g t cs, t ≠ e → Lies w g t cs → Lies w' g t cs) → (∀ b2 e2 s2 v2 n2 xs2, e2 ≠ e → w.ownsRow b2 e2 s2 v2 n2 xs2 → w'.ownsRow b2 e2 s2 v2 n2 xs2) → (∀ w0, Below base w0 w → base ≤ w0.heap.size → Below base w0 w') → K (a.put o.dst v') w') :
    if Region.wanted o (yielded ops a.tmps) = true then Oper.wp Tryz.prog o a w K Q else E := by
  have hw : Region.wanted o (yielded ops a.tmps) = true := by simp [Region.wanted, hgd]
  rw [if_pos hw]
  cases A with
  | none =>
    obtain ⟨rfl, rfl, rfl⟩ := hN rfl
    have hrun := run_append_owned_none (P := Tryz.prog) (w := w) base t o.type e i size ht hi v n xs hown
    unfold Oper.wp
    simp [execOp, ho, resolve, invoke, builtin, hs, hx, hrun, Result.andThen]
    exact h v w (by simpa using hown) (fun _ _ _ _ h => h) (fun _ _ _ _ _ _ _ h => h) (fun _ h _ => h)
  | some ad =>
    obtain ⟨v', w', hr, h2, h3, -⟩ := run_append_own_at (P := Tryz.prog) w base t o.type e i z size bytes ht hi hz hsize hby hzs hsz v n xs hown ad m c news hl (hnews ad rfl) h1 h63 hbytes hbase
    unfold Oper.wp execOp
    simp only [ho, resolve, invoke, builtin, Sem.run_bind, Sem.run_pure, Result.andThen_ok, List.map_toArray, List.map_cons, List.map_nil, hs, hx, hr]
    exact h v' w' h2 (fun g t cs he hl => lies_apart hl hown he h3) (fun b2 e2 s2 v2 n2 xs2 he ho2 => own_apart ho2 hown he h3) (fun w0 hb hB => below_grown hb hB hown h3)

end Go.Proofs.YtmhlbdighceogaaGreat
