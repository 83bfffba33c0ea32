/- The reference: Twin. -/
import Derived.Test.YtngaepgepcnhkaaK20
import Derived.Test.YtngaepgepcnhkaaK21
import Derived.Deep.RegionLaw
namespace Go.Proofs.Ytngaepgepcnhkaa
set_option linter.unusedVariables false
set_option linter.unusedSimpArgs false
open Go.RowKit

theorem infoQ : (Try.prog.info? 45).map (fun i => (i.zero, i.size, i.bytes)) = some (some zIss, 5, 72) := by kernel_rfl
/-- The cells of issues whose rows are told. -/
def cellsQ (xs : List Iss) (tv td : Nat → Value) : Nat → List Value
  | 0 => []
  | k + 1 => cellsQ xs tv td k ++ (if h : k < xs.length then [.int .i64 (xs[k].d), .int .i64 (xs[k].l), .int .u8 xs[k].k, tv k, td k] else [])
theorem cellsQ_len (xs : List Iss) (tv td : Nat → Value) : ∀ k, k ≤ xs.length → (cellsQ xs tv td k).length = k * 5
  | 0, _ => rfl
  | k + 1, h => by rw [cellsQ, List.length_append, cellsQ_len xs tv td k (by omega), dif_pos (by omega)]; simp; omega
theorem cellsQ_at {xs : List Iss} {tv td : Nat → Value} {i t : Nat} (ht : t < 5) : ∀ k (hk : k ≤ xs.length) (hi : i < k), (cellsQ xs tv td k)[i * 5 + t]? = [.int .i64 ((xs[i]'(by omega)).d), .int .i64 ((xs[i]'(by omega)).l), .int .u8 (xs[i]'(by omega)).k, tv i, td i][t]?
  | 0, _, hi => by omega
  | k + 1, hk, hi => by
    have hl := cellsQ_len xs tv td k (by omega)
    rw [cellsQ, dif_pos (by omega)]
    by_cases e : i = k
    · subst e
      rw [List.getElem?_append_right (by omega), hl, show i * 5 + t - i * 5 = t by omega]
    · rw [List.getElem?_append_left (by omega), cellsQ_at ht k (by omega) (by omega)]
theorem cellsQ_congr {xs : List Iss} {tv td tv' td' : Nat → Value} : ∀ k, (∀ j < k, tv j = tv' j ∧ td j = td' j) → cellsQ xs tv td k = cellsQ xs tv' td' k
  | 0, _ => rfl
  | k + 1, h => by rw [cellsQ, cellsQ, cellsQ_congr k (fun j hj => h j (by omega)), (h k (by omega)).1, (h k (by omega)).2]
/-- Rows of issues made so far. -/
def RowsQ (w : World) (base : Nat) (xs : List Iss) (tv td : Nat → Value) (k : Nat) : Prop :=
  ∀ j (h : j < xs.length), j < k → w.ownsRow base 52 2 (tv j) xs[j].items.length (cellsI xs[j].items) ∧ w.ownsRow base 54 3 (td j) xs[j].dims.length (cellsS xs[j].dims)
def putV (tv : Nat → Value) (k : Nat) (v : Value) : Nat → Value := fun j => if j = k then v else tv j
theorem rowsQ_next {w : World} {base : Nat} {xs : List Iss} {tv td : Nat → Value} {k : Nat} {vi vd : Value} (hk : k < xs.length) (h : RowsQ w base xs tv td k) (h1 : w.ownsRow base 52 2 vi xs[k].items.length (cellsI xs[k].items)) (h2 : w.ownsRow base 54 3 vd xs[k].dims.length (cellsS xs[k].dims)) : RowsQ w base xs (putV tv k vi) (putV td k vd) (k + 1) := by
  intro j hj hjk
  unfold putV
  by_cases e : j = k
  · subst e; rw [if_pos rfl, if_pos rfl]; exact ⟨h1, h2⟩
  · rw [if_neg e, if_neg e]; exact h j hj (by omega)
theorem RowsQ.map {w w' : World} {base : Nat} {xs : List Iss} {tv td : Nat → Value} {k : Nat} (h : RowsQ w base xs tv td k) (f : ∀ e s v n cs, (e = 52 ∨ e = 54) → w.ownsRow base e s v n cs → w'.ownsRow base e s v n cs) : RowsQ w' base xs tv td k :=
  fun j hj hjk => ⟨f _ _ _ _ _ (.inl rfl) (h j hj hjk).1, f _ _ _ _ _ (.inr rfl) (h j hj hjk).2⟩
theorem cellsQ_put {xs : List Iss} {tv td : Nat → Value} {k : Nat} {vi vd : Value} (hk : k < xs.length) : cellsQ xs tv td k ++ [.int .i64 (xs[k].d), .int .i64 (xs[k].l), .int .u8 xs[k].k, vi, vd] = cellsQ xs (putV tv k vi) (putV td k vd) (k + 1) := by
  rw [cellsQ, dif_pos hk]
  congr 1
  · exact cellsQ_congr k (fun j hj => by unfold putV; rw [if_neg (by omega), if_neg (by omega)]; exact ⟨rfl, rfl⟩)
  · unfold putV; simp
theorem own_nil {w : World} {base : Nat} {e : TypeId} {size n : Nat} {v : Value} {xs : List Value} (h : w.ownsRow base e size v n xs) : NilOk v := by
  rcases h.2 with ⟨rfl, _⟩ | ⟨g, cap, cur, rfl, _⟩
  · intro n c e; injection e with _ _ e; exact e.symm
  · intro n c e; injection e with e; cases e
theorem issues_of_own {w : World} {base : Nat} {xs : List Iss} {tv td : Nat → Value} {v : Value} (h : w.ownsRow base 45 5 v xs.length (cellsQ xs tv td xs.length)) (hr : RowsQ w base xs tv td xs.length) (hk : ∀ x ∈ xs, 0 ≤ x.k ∧ x.k ≤ 255) : IssuesAt w v xs := by
  obtain ⟨A, c, g, rfl, hf⟩ := own_form h
  refine ⟨A, c, g, 0, rfl, fun h0 => (hf h0).2.1, fun i hi => ?_⟩
  obtain ⟨-, -, cur, hl, hcur⟩ := hf (by omega)
  have hc : ∀ t, t < 5 → w.cell? ⟨g, 0 + i * 5 + t, none⟩ = [.int .i64 (xs[i].d), .int .i64 (xs[i].l), .int .u8 xs[i].k, tv i, td i][t]? := fun t ht => by
    rw [hl.cell, Nat.zero_add, hcur _ (by omega), cellsQ_at ht xs.length (Nat.le_refl _) hi]
  obtain ⟨h1, h2⟩ := hr i hi hi
  exact ⟨tv i, td i, hc 0 (by omega), hc 1 (by omega), hc 2 (by omega), hc 3 (by omega), hc 4 (by omega), hk _ (List.getElem_mem hi), items_of_own h1, dims_of_own h2, own_nil h1, own_nil h2⟩

set_option maxRecDepth 100000 in
set_option maxHeartbeats 16000000 in
theorem rTwin_any {vI : Value} {xs : List Iss} {w : World} (h : RegAt w vI xs) : Calls Try.prog 18 #[.agg #[vI]] w fun e w' => ∃ v, e = .returned (.agg #[v]) ∧ RegAt w' v xs ∧ Below w.heap.size w w' := by
  obtain ⟨A, c, b, off, vi, vd, rfl, hA, hc⟩ := h.at_.row
  have hlen := h.len
  have HTW := Lib.hid (rTwin_v hc h.small)
  have HSM := Lib.hid h.small
  have HKK : Hid (∀ x ∈ xs, 0 ≤ x.k ∧ x.k ≤ 255) := Lib.hid (fun x hx => by
    obtain ⟨i, hi, rfl⟩ := List.getElem_of_mem hx
    exact (hc i hi).2.2.2.2.2.1)
  have HA := Lib.hid hA
  have HC := Lib.hid hc
  clear h hA hc
  obtain ⟨i0, hi0, hz0, hz1, hz2⟩ := info_parts infoQ
  have HD0 := Lib.hid (((Lies.made w 24 #[.slice A xs.length c]).alloc (.cells #[.slice none 0 0] 24)).alloc (.cells #[.slice none 0 0] 24))
  have HR0 := Lib.hid ((Lies.new (u := w.alloc (.cells #[.slice A xs.length c] 24)) (k := w.heap.size + 1) (t := 24) (cs := #[.slice none 0 0]) (by simp)).alloc (.cells #[.slice none 0 0] 24))
  have HU0 := Lib.hid (Lies.new (u := (w.alloc (.cells #[.slice A xs.length c] 24)).alloc (.cells #[.slice none 0 0] 24)) (k := w.heap.size + 1 + 1) (t := 24) (cs := #[.slice none 0 0]) (by simp))
  go_enter Try.func18, Try.ntmps18
  go_wp2_with fail
  go_loopw [4] (fun i wr => ∃ (k : Nat) (AO : Option Addr) (cO : Nat) (tv td : Nat → Value), k ≤ xs.length ∧ i = .int .i64 k ∧ Hid (Lies wr w.heap.size 24 #[.slice A xs.length c]) ∧ Hid (Lies wr (w.heap.size + 1) 24 #[.slice none 0 0]) ∧ Hid (Lies wr (w.heap.size + 1 + 1) 24 #[.slice AO k cO]) ∧ Hid (wr.ownsRow w.heap.size 45 5 (.slice AO k cO) k (cellsQ xs tv td k)) ∧ Hid (RowsQ wr w.heap.size xs tv td k) ∧ Below w.heap.size w wr) (fun i _ => xs.length - (intOf i).toNat)
  case atStart => exact ⟨0, none, 0, fun _ => .slice none 0 0, fun _ => .slice none 0 0, by omega, rfl, HD0, HR0, HU0, Lib.hid (World.ownsRow_nil _ _ _ _), Lib.hid (fun j hj h => by omega), by (repeat' (first | (with_reducible exact Below.refl _ _) | (with_reducible assumption) | (with_reducible refine Below.alloc ?_ ?_ _) | (with_reducible refine Below.setCell ?_ ?_ _) | (with_reducible refine below_row ?_ ?_ _) | (with_reducible refine Below.drew ?_) | (with_reducible refine below_drewN ?_ _) | (with_reducible refine Below.trans ?_ (Below.mono (by assumption) ?_)) | (first | exact Nat.le_refl _ | omega | (simp; done) | (simp; omega) | (exact Below.size (by assumption)))))⟩
  case round =>
    obtain ⟨k, AO, cO, tv, td, hk, rfl, HD, HR, HU, HO, HQ, hb⟩ := hrel
    have hz := hb.size
    have d0 := HD.out.cell 0
    have zd := HD.out.lt
    have zr := HR.out.lt
    have zu := HU.out.lt
    by_cases hlt : k < xs.length
    · obtain rfl := HA.out (by omega)
      have u0 := HU.out.cell 0
      have fu := HU.out.free 0
      obtain ⟨q0, q1, q2, q3, q4, -⟩ := (HC.out.after hb) k hlt
      obtain ⟨e1, e2⟩ := HC.out.slices hlt
      have kl1 : (k : Int) < (xs.length : Int) := by omega
      have HX := Lib.hid (HTW.out k hlt)
      have HPUT : Hid (∀ a b, cellsQ xs tv td k ++ [.int .i64 (xs[k].d), .int .i64 (xs[k].l), .int .u8 xs[k].k, a, b] = cellsQ xs (putV tv k a) (putV td k b) (k + 1)) := Lib.hid (fun a b => cellsQ_put hlt)
      have zc := cellsQ_len xs tv td k hk
      generalize vi k = v1 at *
      generalize vd k = v2 at *
      obtain ⟨A1, n1, c1, rfl⟩ := e1
      obtain ⟨A2, n2, c2, rfl⟩ := e2
      obtain ⟨wq, rfl⟩ : ∃ wq : World, wq = wr := ⟨_, rfl⟩
      go_wp2_with fail
      go_region_law (first | (go_simp; go_at_call 64; refine (HX.out _ (by (repeat' (first | (with_reducible exact Below.refl _ _) | (with_reducible assumption) | (with_reducible refine Below.alloc ?_ ?_ _) | (with_reducible refine Below.setCell ?_ ?_ _) | (with_reducible refine below_row ?_ ?_ _) | (with_reducible refine Below.drew ?_) | (with_reducible refine below_drewN ?_ _) | (with_reducible refine Below.trans ?_ (Below.mono (by assumption) ?_)) | (first | exact Nat.le_refl _ | omega | (simp; done) | (simp; omega) | (exact Below.size (by assumption))))))).mono ?_; rintro e w2 ⟨v, rfl, hown, hb2⟩; have HD2 := Lib.hid (HD.out.drew.after hb2); have HR2 := Lib.hid (HR.out.drew.after hb2); have HU2 := Lib.hid (HU.out.drew.after hb2); have HO2 := Lib.hid (own_after HO.out.drew hb2); have HQ2 := Lib.hid (HQ.out.map (fun _ _ _ _ _ _ ho => own_after (World.ownsRow.drew ho) hb2)); obtain ⟨vi', vd', rfl, -, ho1, ho2⟩ := hown; have HI2 := Lib.hid (own_less (base' := w.heap.size) ho1 (by first | omega | (simp; omega))); have HS2 := Lib.hid (own_less (base' := w.heap.size) ho2 (by first | omega | (simp; omega))); obtain ⟨A3, c3, g3, rfl, -⟩ := own_form ho1; obtain ⟨A4, c4, g4, rfl, -⟩ := own_form ho2; have hbw2 : Below w.heap.size w w2 := (by (repeat' (first | (with_reducible exact Below.refl _ _) | (with_reducible assumption) | (with_reducible refine Below.alloc ?_ ?_ _) | (with_reducible refine Below.setCell ?_ ?_ _) | (with_reducible refine below_row ?_ ?_ _) | (with_reducible refine Below.drew ?_) | (with_reducible refine below_drewN ?_ _) | (with_reducible refine Below.trans ?_ (Below.mono (by assumption) ?_)) | (first | exact Nat.le_refl _ | omega | (simp; done) | (simp; omega) | (exact Below.size (by assumption)))))); have hw2s := hbw2.size; clear ho1 ho2 hb2; have d2 := HD2.out.cell 0; have u2 := HU2.out.cell 0; have f2 := HU2.out.free 0; have zd2 := HD2.out.lt; have zr2 := HR2.out.lt; have zu2 := HU2.out.lt) | (refine step_row (o := ⟨some 21, _, _, _, _, _⟩) (by rfl) (.tmp 13) (.tmp 20) 22 (by rfl) w.heap.size 45 i0 zIss 5 72 Try.underlying22 hi0 hz0 hz1 hz2 rfl (by decide) (.slice AO k cO) k (cellsQ xs tv td k) (by rfl) ?_ (some ⟨_, 0, none⟩) 1 1 [.int .i64 (xs[k].d), .int .i64 (xs[k].l), .int .u8 xs[k].k, .slice A3 xs[k].items.length c3, .slice A4 xs[k].dims.length c4] (by rfl) (fun h => by cases h) (by rfl) ?_ (by simp [Value.oneCell']) (by unfold maxLen; omega) (by omega) (by first | omega | (simp; omega)) ?_; (focus (first | exact HO2.out.alloc _ | exact (HO2.out.alloc _).drew)); (focus (intro ad had; injection had with had; subst had; first | exact World.news_of_block (Lies.made _ _ _) | exact World.news_of_block (Lies.made _ _ _).drew)); intro v3 w3 ho3 hap3 hapo3 hbl3; have HU3 := Lib.hid (hap3 (w.heap.size + 1 + 1) 24 #[.slice AO k cO] (by decide) (HU2.out.alloc _)); have HR3 := Lib.hid (hap3 (w.heap.size + 1) 24 #[.slice none 0 0] (by decide) (HR2.out.alloc _)); have HD3 := Lib.hid (hap3 (w.heap.size) 24 #[.slice (some ⟨b, off, none⟩) xs.length c] (by decide) (HD2.out.alloc _)); have hb3 : Below w.heap.size w w3 := hbl3 w (by (repeat' (first | (with_reducible exact Below.refl _ _) | (with_reducible assumption) | (with_reducible refine Below.alloc ?_ ?_ _) | (with_reducible refine Below.setCell ?_ ?_ _) | (with_reducible refine below_row ?_ ?_ _) | (with_reducible refine Below.drew ?_) | (with_reducible refine below_drewN ?_ _) | (with_reducible refine Below.trans ?_ (Below.mono (by assumption) ?_)) | (first | exact Nat.le_refl _ | omega | (simp; done) | (simp; omega) | (exact Below.size (by assumption)))))) (Nat.le_refl _); have HI3 := Lib.hid (hapo3 _ _ _ _ _ _ (by decide) (HI2.out.alloc _)); have HS3 := Lib.hid (hapo3 _ _ _ _ _ _ (by decide) (HS2.out.alloc _)); have HQ3 := Lib.hid (HQ2.out.map (fun e s v n cs he ho => hapo3 _ e s v n cs (by rcases he with rfl | rfl <;> decide) (World.ownsRow.alloc ho _))); rw [HPUT.out] at ho3; have HO3 := Lib.hid ho3; obtain ⟨A5, c5, g5, rfl, -⟩ := own_form ho3; clear ho3 hap3 hapo3 hbl3; have u3 := HU3.out.cell 0; have f3 := HU3.out.free 0; have zu3 := HU3.out.lt))
      all_goals
        go_wp2_with fail
        go_roundw
        case rel =>
          exact ⟨k + 1, A5, c5, _, _, by omega, by go_num, Lib.hid (HD3.out.other (p := ⟨w.heap.size + 1 + 1, 0, none⟩) (by simp only; omega) _), Lib.hid (HR3.out.other (p := ⟨w.heap.size + 1 + 1, 0, none⟩) (by simp only; omega) _), Lib.hid (HU3.out.store 0 _), Lib.hid (own_set HO3.out HU3.out (by decide) 0 _), Lib.hid (rowsQ_next hlt (HQ3.out.map (fun e _ _ _ _ he ho => own_set ho HU3.out (by rcases he with rfl | rfl <;> decide) 0 _)) (own_set HI3.out HU3.out (by decide) 0 _) (own_set HS3.out HU3.out (by decide) 0 _)), by (repeat' (first | (with_reducible exact Below.refl _ _) | (with_reducible assumption) | (with_reducible refine Below.alloc ?_ ?_ _) | (with_reducible refine Below.setCell ?_ ?_ _) | (with_reducible refine below_row ?_ ?_ _) | (with_reducible refine Below.drew ?_) | (with_reducible refine below_drewN ?_ _) | (with_reducible refine Below.trans ?_ (Below.mono (by assumption) ?_)) | (first | exact Nat.le_refl _ | omega | (simp; done) | (simp; omega) | (exact Below.size (by assumption)))))⟩
        case measure => simp [intOf]; omega
    · have hke : k = xs.length := by omega
      subst hke
      have u0 := HU.out.cell 0
      have r0 := HR.out.cell 0
      have fr := HR.out.free 0
      have HIA := Lib.hid (issues_of_own (own_set HO.out HR.out (by decide) 0 (.slice AO xs.length cO)) (HQ.out.map (fun e _ _ _ _ he ho => own_set ho HR.out (by rcases he with rfl | rfl <;> decide) 0 (.slice AO xs.length cO))) HKK.out)
      go_wp2_with fail
      exact bodyPost_ret (results_cell_row rfl _ _ (w.heap.size + 1) _ _ (0, 0) _ rfl (HR.out.store 0 _) Try.underlying24 rfl (by kernel_rfl)) rfl ⟨_, rfl, ⟨HIA.out, hlen, HSM.out⟩, by (repeat' (first | (with_reducible exact Below.refl _ _) | (with_reducible assumption) | (with_reducible refine Below.alloc ?_ ?_ _) | (with_reducible refine Below.setCell ?_ ?_ _) | (with_reducible refine below_row ?_ ?_ _) | (with_reducible refine Below.drew ?_) | (with_reducible refine below_drewN ?_ _) | (with_reducible refine Below.trans ?_ (Below.mono (by assumption) ?_)) | (first | exact Nat.le_refl _ | omega | (simp; done) | (simp; omega) | (exact Below.size (by assumption)))))⟩
end Go.Proofs.Ytngaepgepcnhkaa
