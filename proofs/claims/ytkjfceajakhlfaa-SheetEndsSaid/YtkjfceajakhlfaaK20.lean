/- The reference: TwinIssue. -/
import Derived.Test.YtkjfceajakhlfaaLE
import Derived.Deep.AppendLies
import Derived.Deep.RegionLaw
import Derived.Deep.DeepCutAuto
namespace Go.Proofs.Ytkjfceajakhlfaa
set_option linter.unusedVariables false
set_option linter.unusedSimpArgs false
open Go.RowKit

theorem own_emptyI (u : World) (base k : Nat) (hk : k = u.heap.size) (hb : base ≤ k) : (u.alloc (.cells #[] 52)).ownsRow base 52 2 (.slice (some ⟨k, 0, none⟩) 0 0) 0 [] := by
  subst hk
  exact World.ownsRow_made (base := base) (e := 52) (size := 2) u #[] 0 hb (by decide) rfl
theorem own_emptyS (u : World) (base k : Nat) (hk : k = u.heap.size) (hb : base ≤ k) : (u.alloc (.cells #[] 54)).ownsRow base 54 3 (.slice (some ⟨k, 0, none⟩) 0 0) 0 [] := by
  subst hk
  exact World.ownsRow_made (base := base) (e := 54) (size := 3) u #[] 0 hb (by decide) rfl
/-- A row stays when a row of another type grows. -/
theorem own_apart {W W' : World} {base base2 : Nat} {e e2 : TypeId} {size n size2 n2 : Nat} {v v2 : Value} {xs xs2 : List Value} (h : W.ownsRow base e size v n xs) (h2 : W.ownsRow base2 e2 size2 v2 n2 xs2) (he : e ≠ e2) (hg : W.grownBy W' v2.ownBlock) : W'.ownsRow base e size v n xs := by
  refine own_at h fun g hk => ?_
  rcases h.2 with ⟨rfl, _⟩ | ⟨g', cap, cur, rfl, _, hh, _⟩
  · simp [Value.ownBlock] at hk
  · obtain rfl : g' = g := by simpa [Value.ownBlock] using hk
    refine hg.block g' (Array.getElem?_eq_some_iff.1 hh).1 ?_
    intro hk2
    rcases h2.2 with ⟨rfl, _⟩ | ⟨g2, cap2, cur2, rfl, _, hh2, _⟩
    · simp [Value.ownBlock] at hk2
    · obtain rfl : g' = g2 := by simpa [Value.ownBlock] using hk2
      rw [hh] at hh2
      injection hh2 with hh2
      injection hh2 with _ ht
      exact he ht
theorem lies_apart {W W' : World} {base2 : Nat} {e2 t : TypeId} {size2 n2 g : Nat} {v2 : Value} {xs2 : List Value} {cs : Array Value} (h : Lies W g t cs) (h2 : W.ownsRow base2 e2 size2 v2 n2 xs2) (he : t ≠ e2) (hg : W.grownBy W' v2.ownBlock) : Lies W' g t cs := by
  refine (hg.block g h.lt ?_).trans h
  intro hk2
  rcases h2.2 with ⟨rfl, _⟩ | ⟨g2, cap2, cur2, rfl, _, hh2, _⟩
  · simp [Value.ownBlock] at hk2
  · obtain rfl : g = g2 := by simpa [Value.ownBlock] using hk2
    have h3 := h
    unfold Lies at h3
    rw [hh2] at h3
    injection h3 with h3
    injection h3 with _ ht
    exact he ht.symm
theorem below_grown {B : Nat} {w W W' : World} {e2 : TypeId} {size2 n2 : Nat} {v2 : Value} {xs2 : List Value} (h : Below B w W) (hB : B ≤ w.heap.size) (h2 : W.ownsRow B e2 size2 v2 n2 xs2) (hg : W.grownBy W' v2.ownBlock) : Below B w W' := by
  refine Below.grown h hg (Nat.le_trans hB h.size) fun r e => ?_
  rcases h2.2 with ⟨rfl, _⟩ | ⟨g2, cap2, cur2, rfl, hb, _⟩
  · simp [Value.ownBlock] at e
  · obtain rfl : g2 = r := by simpa [Value.ownBlock] using e
    exact hb

/-- A row grows by another one's cells, nil or not, empty or not. -/
theorem step_row {ops : Array Oper} {o : Oper} {a : Act} {w : World} {K : Act → World → Prop} {Q : Exit → Act → World → Prop} {E : Prop} (hgd : o.guard = none) (s x : Operand) (t : TypeId)
    (ho : o.op = .call { callee := .builtin .append, args := #[s, x], argTypes := #[t, t] })
    (base : Nat) (e : TypeId) (i : TypeInfo) (z : Value) (size bytes : Nat) (ht : Try.prog.underlying t = some (.slice e)) (hi : Try.prog.info? e = some i) (hz : i.zero = some z)
    (hsize : i.size = size) (hby : i.bytes = bytes) (hzs : z.cells.size = size) (hsz : 0 < size)
    (v : Value) (n : Nat) (xs : List Value) (hs : a.eval s = v) (hown : w.ownsRow base e size v n xs)
    (A : Option Addr) (m c : Nat) (news : List Value) (hx : a.eval x = .slice A m c) (hN : A = none → m = 0 ∧ c = 0 ∧ news = []) (hl : news.length = m * size) (hnews : ∀ ad, A = some ad → ∀ j u, news[j]? = some u → w.cell? (ad.add j) = some u) (h1 : ∀ u ∈ news, u.oneCell' = true)
    (h63 : n + m ≤ maxLen) (hbytes : (n + m) * bytes ≤ 140737488355328) (hbase : base ≤ w.heap.size)
    (h : ∀ v' w', w'.ownsRow base e size v' (n + m) (xs ++ news) → (∀ g t cs, t ≠ e → Lies w g t cs → Lies w' g t cs) → (∀ b2 e2 s2 v2 n2 xs2, e2 ≠ e → w.ownsRow b2 e2 s2 v2 n2 xs2 → w'.ownsRow b2 e2 s2 v2 n2 xs2) → (∀ w0, Below base w0 w → base ≤ w0.heap.size → Below base w0 w') → K (a.put o.dst v') w') :
    if Region.wanted o (yielded ops a.tmps) = true then Oper.wp Try.prog o a w K Q else E := by
  have hw : Region.wanted o (yielded ops a.tmps) = true := by simp [Region.wanted, hgd]
  rw [if_pos hw]
  cases A with
  | none =>
    obtain ⟨rfl, rfl, rfl⟩ := hN rfl
    have hrun := run_append_owned_none (P := Try.prog) (w := w) base t o.type e i size ht hi v n xs hown
    unfold Oper.wp
    simp [execOp, ho, resolve, invoke, builtin, hs, hx, hrun, Result.andThen]
    exact h v w (by simpa using hown) (fun _ _ _ _ h => h) (fun _ _ _ _ _ _ _ h => h) (fun _ h _ => h)
  | some ad =>
    obtain ⟨v', w', hr, h2, h3, -⟩ := run_append_own_at (P := Try.prog) w base t o.type e i z size bytes ht hi hz hsize hby hzs hsz v n xs hown ad m c news hl (hnews ad rfl) h1 h63 hbytes hbase
    unfold Oper.wp execOp
    simp only [ho, resolve, invoke, builtin, Sem.run_bind, Sem.run_pure, Result.andThen_ok, List.map_toArray, List.map_cons, List.map_nil, hs, hx, hr]
    exact h v' w' h2 (fun g t cs he hl => lies_apart hl hown he h3) (fun b2 e2 s2 v2 n2 xs2 he ho2 => own_apart ho2 hown he h3) (fun w0 hb hB => below_grown hb hB hown h3)

set_option maxRecDepth 100000 in
set_option maxHeartbeats 16000000 in
theorem rTwinIssue_any (x : Iss) (vi vd : Value) (w : World) (hk : 0 ≤ x.k ∧ x.k ≤ 255) (hl1 : x.items.length ≤ 1000) (hl2 : x.dims.length ≤ 1000) (hi : ItemsAt w vi x.items) (hd : DimsAt w vd x.dims) (n1 : NilOk vi) (n2 : NilOk vd) :
    Calls Try.prog 64 #[.agg #[.int .i64 x.d, .int .i64 x.l, .int .u8 x.k, vi, vd]] w fun e w' => ∃ v, e = .returned v ∧ OwnIss w' w.heap.size v x ∧ Below w.heap.size w w' := by
  obtain ⟨d, l, k, il, dl⟩ := x
  simp only at hk hl1 hl2 hi hd
  obtain ⟨Ai, ci, bi, oi, rfl, hAi, hci⟩ := hi
  obtain ⟨Ad, cd, bd, od, rfl, hAd, hcd⟩ := hd
  obtain ⟨i0, hi0, hz0, hz1, hz2⟩ := info_parts infoI
  obtain ⟨j0, hj0, hy0, hy1, hy2⟩ := info_parts infoS
  have HCI := Lib.hid hci
  have HCD := Lib.hid hcd
  have HAI := Lib.hid hAi
  have HAD := Lib.hid hAd
  have zI := Lib.hid (cellsI_len il)
  have zS := Lib.hid (cellsS_len dl)
  have HNI : Hid (Ai = none → il.length = 0 ∧ ci = 0 ∧ cellsI il = []) := Lib.hid (fun h => by
    subst h
    obtain rfl : il = [] := by
      cases il with
      | nil => rfl
      | cons a r => exact absurd (HAI.out (by simp)) (by simp)
    exact ⟨rfl, n1 _ _ rfl, rfl⟩)
  have HND : Hid (Ad = none → dl.length = 0 ∧ cd = 0 ∧ cellsS dl = []) := Lib.hid (fun h => by
    subst h
    obtain rfl : dl = [] := by
      cases dl with
      | nil => rfl
      | cons a r => exact absurd (HAD.out (by simp)) (by simp)
    exact ⟨rfl, n2 _ _ rfl, rfl⟩)
  clear hci hcd hAi hAd n1 n2
  go_enter Try.func64, Try.ntmps64
  go_upto_region 1 with fail
  go_cut [11] (fun s11 wx => s11 = .pointer (some ⟨w.heap.size, 3, none⟩) ∧ ∃ (A1 : Option Addr) (c1 : Nat) (A2 : Option Addr) (c2 : Nat), Hid (wx.ownsRow w.heap.size 52 2 (.slice A1 il.length c1) il.length (cellsI il)) ∧ Hid (wx.ownsRow w.heap.size 54 3 (.slice A2 dl.length c2) dl.length (cellsS dl)) ∧ Hid (Lies wx w.heap.size 45 #[.int .i64 d, .int .i64 l, .int .u8 k, .slice A1 il.length c1, .slice A2 dl.length c2]) ∧ Hid (Lies wx (w.heap.size + 1) 45 #[.int .i64 0, .int .i64 0, .int .u8 0, .slice none 0 0, .slice none 0 0]) ∧ Below w.heap.size w wx)
  case first =>
    obtain ⟨wA, hwA⟩ : ∃ W, ((w.alloc (.cells #[.int .i64 d, .int .i64 l, .int .u8 k, .slice Ai il.length ci, .slice Ad dl.length cd] 45)).alloc (.cells #[.int .i64 0, .int .i64 0, .int .u8 0, .slice none 0 0, .slice none 0 0] 45)) = W := ⟨_, rfl⟩
    have HL := Lib.hid ((Lies.made w 45 #[.int .i64 d, .int .i64 l, .int .u8 k, .slice Ai il.length ci, .slice Ad dl.length cd]).alloc (.cells #[.int .i64 0, .int .i64 0, .int .u8 0, .slice none 0 0, .slice none 0 0] 45))
    have HR := Lib.hid (Lies.new (u := w.alloc (.cells #[.int .i64 d, .int .i64 l, .int .u8 k, .slice Ai il.length ci, .slice Ad dl.length cd] 45)) (k := w.heap.size + 1) (t := 45) (cs := #[.int .i64 0, .int .i64 0, .int .u8 0, .slice none 0 0, .slice none 0 0]) (by simp))
    have hbA : Below w.heap.size w ((w.alloc (.cells #[.int .i64 d, .int .i64 l, .int .u8 k, .slice Ai il.length ci, .slice Ad dl.length cd] 45)).alloc (.cells #[.int .i64 0, .int .i64 0, .int .u8 0, .slice none 0 0, .slice none 0 0] 45)) := by (repeat' (first | (with_reducible first | exact Below.refl _ _ | assumption | refine Below.alloc ?_ ?_ _ | refine Below.setCell ?_ ?_ _ | refine below_row ?_ ?_ _ | refine Below.drew ?_ | refine below_drewN ?_ _ | refine Below.trans ?_ (Below.mono (by assumption) ?_)) | exact Nat.le_refl _ | omega | (simp; done) | (simp; omega) | exact Below.size (by assumption)))
    have hsA : wA.heap.size = w.heap.size + 1 + 1 := by rw [← hwA]; simp
    rw [hwA] at HL HR hbA
    rw [hwA]
    clear hwA
    have d3 := HL.out.cell 3
    have d4 := HL.out.cell 4
    have zl := HL.out.lt
    have zr := HR.out.lt
    go_region_law (first | (refine step_row (o := ⟨some 6, _, _, _, _, _⟩) (by rfl) (.tmp 3) (.tmp 5) 42 (by rfl) w.heap.size 52 i0 (.agg #[.int .i64 0, .int .i64 0]) 2 16 Try.underlying42 hi0 hz0 hz1 hz2 rfl (by decide) (.slice (some ⟨_, 0, none⟩) 0 0) 0 [] (by rfl) ?_ Ai il.length ci (cellsI il) (by rfl) HNI.out zI.out (fun ad had => by subst had; exact newsI_any HAI.out HCI.out (by (repeat' (first | (with_reducible first | exact Below.refl _ _ | assumption | refine Below.alloc ?_ ?_ _ | refine Below.setCell ?_ ?_ _ | refine below_row ?_ ?_ _ | refine Below.drew ?_ | refine below_drewN ?_ _ | refine Below.trans ?_ (Below.mono (by assumption) ?_)) | exact Nat.le_refl _ | omega | (simp; done) | (simp; omega) | exact Below.size (by assumption))))) (cellsI_one il) (by unfold maxLen; omega) (by omega) (by first | omega | (simp; omega)) ?_; (focus (first | exact EI.out | exact EI.out.drew | (first | (refine own_emptyI _ _ _ ?_ ?_ <;> (first | omega | (simp; done) | (simp; omega)); done) | (refine World.ownsRow.drew (own_emptyI _ _ _ ?_ ?_) <;> (first | omega | (simp; done) | (simp; omega)); done) | (refine World.ownsRow.alloc (own_emptyI _ _ _ ?_ ?_) _ <;> (first | omega | (simp; done) | (simp; omega)); done) | (refine World.ownsRow.drew (World.ownsRow.alloc (own_emptyI _ _ _ ?_ ?_) _) <;> (first | omega | (simp; done) | (simp; omega)); done)))); intro v1 w1 ho1 hap1 hapo1 hbl1; simp only [Nat.zero_add, List.nil_append] at ho1; replace HL := Lib.hid (hap1 w.heap.size 45 #[.int .i64 d, .int .i64 l, .int .u8 k, .slice Ai il.length ci, .slice Ad dl.length cd] (by decide) (by (first | exact HL.out | exact HL.out.drew | exact HL.out.alloc _ | exact (HL.out.alloc _).drew | exact (HL.out.alloc _).alloc _ | exact ((HL.out.alloc _).alloc _).drew))); replace HR := Lib.hid (hap1 (w.heap.size + 1) 45 #[.int .i64 0, .int .i64 0, .int .u8 0, .slice none 0 0, .slice none 0 0] (by decide) (by (first | exact HR.out | exact HR.out.drew | exact HR.out.alloc _ | exact (HR.out.alloc _).drew | exact (HR.out.alloc _).alloc _ | exact ((HR.out.alloc _).alloc _).drew))); have hb1 : Below w.heap.size w w1 := hbl1 w (by (repeat' (first | (with_reducible first | exact Below.refl _ _ | assumption | refine Below.alloc ?_ ?_ _ | refine Below.setCell ?_ ?_ _ | refine below_row ?_ ?_ _ | refine Below.drew ?_ | refine below_drewN ?_ _ | refine Below.trans ?_ (Below.mono (by assumption) ?_)) | exact Nat.le_refl _ | omega | (simp; done) | (simp; omega) | exact Below.size (by assumption)))) (Nat.le_refl _); (try (refine (fun (ES : Hid (w1.ownsRow w.heap.size 54 3 (.slice (some ⟨w.heap.size + 1 + 1, 0, none⟩) 0 0) 0 [])) => ?_) (Lib.hid (hapo1 _ _ _ _ _ _ ?_ ?_)); rotate_left; (focus decide); (focus (first | (refine own_emptyS _ _ _ ?_ ?_ <;> (first | omega | (simp; done) | (simp; omega)); done) | (refine World.ownsRow.drew (own_emptyS _ _ _ ?_ ?_) <;> (first | omega | (simp; done) | (simp; omega)); done) | (refine World.ownsRow.alloc (own_emptyS _ _ _ ?_ ?_) _ <;> (first | omega | (simp; done) | (simp; omega)); done) | (refine World.ownsRow.drew (World.ownsRow.alloc (own_emptyS _ _ _ ?_ ?_) _) <;> (first | omega | (simp; done) | (simp; omega)); done))))); (try (refine (fun (ES : Hid (w1.ownsRow w.heap.size 54 3 (.slice (some ⟨w.heap.size + 1 + 1 + 1, 0, none⟩) 0 0) 0 [])) => ?_) (Lib.hid (hapo1 _ _ _ _ _ _ ?_ ?_)); rotate_left; (focus decide); (focus (first | (refine own_emptyS _ _ _ ?_ ?_ <;> (first | omega | (simp; done) | (simp; omega)); done) | (refine World.ownsRow.drew (own_emptyS _ _ _ ?_ ?_) <;> (first | omega | (simp; done) | (simp; omega)); done) | (refine World.ownsRow.alloc (own_emptyS _ _ _ ?_ ?_) _ <;> (first | omega | (simp; done) | (simp; omega)); done) | (refine World.ownsRow.drew (World.ownsRow.alloc (own_emptyS _ _ _ ?_ ?_) _) <;> (first | omega | (simp; done) | (simp; omega)); done))))); (first | (replace HS := Lib.hid (hapo1 _ _ _ _ _ _ (by decide) HS.out)) | (replace HS := Lib.hid (hapo1 _ _ _ _ _ _ (by decide) HS.out.drew)) | (replace HS := Lib.hid (hapo1 _ _ _ _ _ _ (by decide) (HS.out.alloc _))) | (replace HS := Lib.hid (hapo1 _ _ _ _ _ _ (by decide) (HS.out.alloc _).drew)) | skip); have HI := Lib.hid ho1; obtain ⟨A1, c1, g1, rfl, -⟩ := own_form ho1; clear ho1 hap1 hapo1 hbl1; have d3 := HL.out.cell 3; have d4 := HL.out.cell 4; have f3 := HL.out.free 3; have f4 := HL.out.free 4; have zl := HL.out.lt; have zr := HR.out.lt) | (refine step_row (o := ⟨some 10, _, _, _, _, _⟩) (by rfl) (.tmp 7) (.tmp 9) 43 (by rfl) w.heap.size 54 j0 (.agg #[.int .i64 0, .int .i64 0, .int .i64 0]) 3 24 Try.underlying43 hj0 hy0 hy1 hy2 rfl (by decide) (.slice (some ⟨_, 0, none⟩) 0 0) 0 [] (by rfl) ?_ Ad dl.length cd (cellsS dl) (by rfl) HND.out zS.out (fun ad had => by subst had; exact newsS_any HAD.out HCD.out (by (repeat' (first | (with_reducible first | exact Below.refl _ _ | assumption | refine Below.alloc ?_ ?_ _ | refine Below.setCell ?_ ?_ _ | refine below_row ?_ ?_ _ | refine Below.drew ?_ | refine below_drewN ?_ _ | refine Below.trans ?_ (Below.mono (by assumption) ?_)) | exact Nat.le_refl _ | omega | (simp; done) | (simp; omega) | exact Below.size (by assumption))))) (cellsS_one dl) (by unfold maxLen; omega) (by omega) (by first | omega | (simp; omega)) ?_; (focus (first | exact ES.out | exact ES.out.drew | (first | (refine own_emptyS _ _ _ ?_ ?_ <;> (first | omega | (simp; done) | (simp; omega)); done) | (refine World.ownsRow.drew (own_emptyS _ _ _ ?_ ?_) <;> (first | omega | (simp; done) | (simp; omega)); done) | (refine World.ownsRow.alloc (own_emptyS _ _ _ ?_ ?_) _ <;> (first | omega | (simp; done) | (simp; omega)); done) | (refine World.ownsRow.drew (World.ownsRow.alloc (own_emptyS _ _ _ ?_ ?_) _) <;> (first | omega | (simp; done) | (simp; omega)); done)))); intro v2 w2 ho2 hap2 hapo2 hbl2; simp only [Nat.zero_add, List.nil_append] at ho2; replace HL := Lib.hid (hap2 w.heap.size 45 #[.int .i64 d, .int .i64 l, .int .u8 k, .slice Ai il.length ci, .slice Ad dl.length cd] (by decide) (by (first | exact HL.out | exact HL.out.drew | exact HL.out.alloc _ | exact (HL.out.alloc _).drew | exact (HL.out.alloc _).alloc _ | exact ((HL.out.alloc _).alloc _).drew))); replace HR := Lib.hid (hap2 (w.heap.size + 1) 45 #[.int .i64 0, .int .i64 0, .int .u8 0, .slice none 0 0, .slice none 0 0] (by decide) (by (first | exact HR.out | exact HR.out.drew | exact HR.out.alloc _ | exact (HR.out.alloc _).drew | exact (HR.out.alloc _).alloc _ | exact ((HR.out.alloc _).alloc _).drew))); have hb2 : Below w.heap.size w w2 := hbl2 w (by (repeat' (first | (with_reducible first | exact Below.refl _ _ | assumption | refine Below.alloc ?_ ?_ _ | refine Below.setCell ?_ ?_ _ | refine below_row ?_ ?_ _ | refine Below.drew ?_ | refine below_drewN ?_ _ | refine Below.trans ?_ (Below.mono (by assumption) ?_)) | exact Nat.le_refl _ | omega | (simp; done) | (simp; omega) | exact Below.size (by assumption)))) (Nat.le_refl _); (try (refine (fun (EI : Hid (w2.ownsRow w.heap.size 52 2 (.slice (some ⟨w.heap.size + 1 + 1, 0, none⟩) 0 0) 0 [])) => ?_) (Lib.hid (hapo2 _ _ _ _ _ _ ?_ ?_)); rotate_left; (focus decide); (focus (first | (refine own_emptyI _ _ _ ?_ ?_ <;> (first | omega | (simp; done) | (simp; omega)); done) | (refine World.ownsRow.drew (own_emptyI _ _ _ ?_ ?_) <;> (first | omega | (simp; done) | (simp; omega)); done) | (refine World.ownsRow.alloc (own_emptyI _ _ _ ?_ ?_) _ <;> (first | omega | (simp; done) | (simp; omega)); done) | (refine World.ownsRow.drew (World.ownsRow.alloc (own_emptyI _ _ _ ?_ ?_) _) <;> (first | omega | (simp; done) | (simp; omega)); done))))); (try (refine (fun (EI : Hid (w2.ownsRow w.heap.size 52 2 (.slice (some ⟨w.heap.size + 1 + 1 + 1, 0, none⟩) 0 0) 0 [])) => ?_) (Lib.hid (hapo2 _ _ _ _ _ _ ?_ ?_)); rotate_left; (focus decide); (focus (first | (refine own_emptyI _ _ _ ?_ ?_ <;> (first | omega | (simp; done) | (simp; omega)); done) | (refine World.ownsRow.drew (own_emptyI _ _ _ ?_ ?_) <;> (first | omega | (simp; done) | (simp; omega)); done) | (refine World.ownsRow.alloc (own_emptyI _ _ _ ?_ ?_) _ <;> (first | omega | (simp; done) | (simp; omega)); done) | (refine World.ownsRow.drew (World.ownsRow.alloc (own_emptyI _ _ _ ?_ ?_) _) <;> (first | omega | (simp; done) | (simp; omega)); done))))); (first | (replace HI := Lib.hid (hapo2 _ _ _ _ _ _ (by decide) HI.out)) | (replace HI := Lib.hid (hapo2 _ _ _ _ _ _ (by decide) HI.out.drew)) | (replace HI := Lib.hid (hapo2 _ _ _ _ _ _ (by decide) (HI.out.alloc _))) | (replace HI := Lib.hid (hapo2 _ _ _ _ _ _ (by decide) (HI.out.alloc _).drew)) | skip); have HS := Lib.hid ho2; obtain ⟨A2, c2, g2, rfl, -⟩ := own_form ho2; clear ho2 hap2 hapo2 hbl2; have d3 := HL.out.cell 3; have d4 := HL.out.cell 4; have f3 := HL.out.free 3; have f4 := HL.out.free 4; have zl := HL.out.lt; have zr := HR.out.lt))
    all_goals (go_wp2_with fail; go_meet; exact ⟨rfl, _, _, _, _, Lib.hid (own_set (own_set HI.out HL.out (by decide) 3 _) (HL.out.store 3 _) (by decide) 4 _), Lib.hid (own_set (own_set HS.out HL.out (by decide) 3 _) (HL.out.store 3 _) (by decide) 4 _), Lib.hid ((HL.out.store 3 _).store 4 _), Lib.hid ((HR.out.other (p := ⟨w.heap.size, 3, none⟩) (by show w.heap.size + 1 ≠ w.heap.size; omega) _).other (p := ⟨w.heap.size, 4, none⟩) (by show w.heap.size + 1 ≠ w.heap.size; omega) _), by (repeat' (first | (with_reducible first | exact Below.refl _ _ | assumption | refine Below.alloc ?_ ?_ _ | refine Below.setCell ?_ ?_ _ | refine below_row ?_ ?_ _ | refine Below.drew ?_ | refine below_drewN ?_ _ | refine Below.trans ?_ (Below.mono (by assumption) ?_)) | exact Nat.le_refl _ | omega | (simp; done) | (simp; omega) | exact Below.size (by assumption)))⟩)
  case rest =>
    obtain ⟨rfl, A1, c1, A2, c2, HI, HS, HL, HR, hb⟩ := hcut
    have d0 := HL.out.cell 0
    have d1 := HL.out.cell 1
    have d2 := HL.out.cell 2
    have d3 := HL.out.cell 3
    have d4 := HL.out.cell 4
    have zl := HL.out.lt
    have zr := HR.out.lt
    have r0 := HR.out.cell 0
    have r1 := HR.out.cell 1
    have r2 := HR.out.cell 2
    have r3 := HR.out.cell 3
    have r4 := HR.out.cell 4
    have e0 := HR.out.free 0
    have e1 := HR.out.free 1
    have e2 := HR.out.free 2
    have e3 := HR.out.free 3
    have e4 := HR.out.free 4
    go_wp2_with fail
    exact bodyPost_ret (results_cell_row rfl _ _ (w.heap.size + 1) _ _ (0, 0) _ rfl (HR.out.five (.int .i64 d) (.int .i64 l) (.int .u8 k) (.slice A1 il.length c1) (.slice A2 dl.length c2)) Try.underlying45 rfl (by kernel_rfl)) rfl ⟨_, rfl, ⟨_, _, rfl, hk, own_five HI.out HR.out (by decide) _ _ _ _ _, own_five HS.out HR.out (by decide) _ _ _ _ _⟩, below_five hb (by omega) _ _ _ _ _⟩
end Go.Proofs.Ytkjfceajakhlfaa
