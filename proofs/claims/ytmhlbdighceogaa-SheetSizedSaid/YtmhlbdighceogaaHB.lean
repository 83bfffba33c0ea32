/- The reference's Twin: a register whose rows are one's own, the rows of sizes in blocks of their own. -/
import Derived.Test.YtmhlbdighceogaaVI
import Derived.Test.YtmhlbdighceogaaHC
namespace Go.Proofs.Ytmhlbdighceogaa
set_option linter.unusedVariables false
set_option linter.unusedSimpArgs false
open Go.RowKit

theorem own_ge {w : World} {base : Nat} {e : TypeId} {size n : Nat} {v : Value} {xs : List Value} (h : w.ownsRow base e size v n xs) (g : Nat) (hg : v.ownBlock = some g) : base ≤ g := by
  rcases h.2 with ⟨rfl, -⟩ | ⟨g', cap, cur, rfl, hb, -⟩
  · cases hg
  · injection hg with e1; subst e1; exact hb
theorem own_lt {w : World} {base : Nat} {e : TypeId} {size n : Nat} {v : Value} {xs : List Value} (h : w.ownsRow base e size v n xs) (g : Nat) (hg : v.ownBlock = some g) : g < w.heap.size := by
  rcases h.2 with ⟨rfl, -⟩ | ⟨g', cap, cur, rfl, -, hh, -⟩
  · cases hg
  · injection hg with e1; subst e1
    by_cases h2 : g' < w.heap.size
    · exact h2
    · rw [Array.getElem?_eq_none (by omega)] at hh; cases hh
/-- The first rows lie in blocks of their own. -/
def ApartQ (td : Nat → Value) (k : Nat) : Prop := ∀ i j g, i < j → j < k → (td i).ownBlock = some g → (td j).ownBlock ≠ some g
theorem apart_next {td : Nat → Value} {k b : Nat} {v : Value} (h : ApartQ td k) (h1 : ∀ i, i < k → ∀ g, (td i).ownBlock = some g → g < b) (h2 : ∀ g, v.ownBlock = some g → b ≤ g) : ApartQ (putV td k v) (k + 1) := by
  intro i j g hij hj hg
  unfold putV at hg ⊢
  rw [if_neg (by omega)] at hg
  by_cases e : j = k
  · rw [if_pos e]
    intro h3
    have := h1 i (by omega) g hg
    have := h2 g h3
    omega
  · rw [if_neg e]
    exact h i j g hij (by omega) hg
def DimsApart (rs : List (Iss × Value × Value)) : Prop := rs.Pairwise fun a b => ∀ g, a.2.2.ownBlock = some g → b.2.2.ownBlock ≠ some g
theorem reg_of_ownD {w : World} {base : Nat} {xs : List Iss} {tv td : Nat → Value} {v : Value} (h : w.ownsRow base 45 5 v xs.length (cellsQ xs tv td xs.length)) (hr : RowsQ w base xs tv td xs.length) (hk : ∀ x ∈ xs, 0 ≤ x.k ∧ x.k ≤ 255) (hp : ApartQ td xs.length) : ∃ rs, OwnReg w base v rs ∧ rs.map (·.1) = xs ∧ DimsApart rs := by
  refine ⟨rsQ xs tv td xs.length, ⟨?_, ?_⟩, ?_, ?_⟩
  · rw [cellsT_rsQ _ (Nat.le_refl _)]
    have e : (rsQ xs tv td xs.length).length = xs.length := by simp [rsQ]
    rw [e]
    exact h
  · intro r hr2
    obtain ⟨i, hi, rfl⟩ := List.mem_map.1 hr2
    have hi2 := List.mem_range.1 hi
    have e2 : xs.getD i zeroI = xs[i] := by simp [List.getD_eq_getElem?_getD, List.getElem?_eq_getElem hi2]
    obtain ⟨h1, h2⟩ := hr i hi2 hi2
    refine ⟨?_, ?_, ?_⟩
    · simp only [e2]; exact hk _ (List.getElem_mem hi2)
    · simp only [e2]; exact h1
    · simp only [e2]; exact h2
  · apply List.ext_getElem
    · simp [rsQ]
    · intro i h1 h2
      simp [rsQ, h2]
  · refine List.pairwise_iff_getElem.2 fun i j hi hj hij g hg => ?_
    have hj2 : j < xs.length := by simpa [rsQ] using hj
    have ei : (rsQ xs tv td xs.length)[i].2.2 = td i := by simp [rsQ]
    have ej : (rsQ xs tv td xs.length)[j].2.2 = td j := by simp [rsQ]
    rw [ei] at hg
    rw [ej]
    exact hp i j g hij hj2 hg
theorem cellsT_set {rs : List (Iss × Value × Value)} {i : Nat} (hi : i < rs.length) {r' : Iss × Value × Value} {v : Value} (he : cellT r' = (cellT rs[i]).set 4 v) : cellsT (rs.set i r') = (cellsT rs).set (i * 5 + 4) v := by
  induction rs generalizing i with
  | nil => simp at hi
  | cons r rs ih =>
    cases i with
    | zero =>
      show cellT r' ++ cellsT rs = (cellT r ++ cellsT rs).set (0 * 5 + 4) v
      rw [List.set_append_left _ _ (by simp [cellT])]
      rw [he]
      rfl
    | succ i =>
      show cellT r ++ cellsT (rs.set i r') = (cellT r ++ cellsT rs).set ((i + 1) * 5 + 4) v
      rw [List.set_append_right _ _ (by simp [cellT]; omega), ih (by simpa using hi) (by simpa using he), show (i + 1) * 5 + 4 - (cellT r).length = i * 5 + 4 by simp [cellT]; omega]
/-- An issue's row of sizes has grown, and was put in. -/
theorem reg_more {W W' : World} {base : Nat} {v v' : Value} {rs : List (Iss × Value × Value)} (h : OwnReg W base v rs) (hap : DimsApart rs) {i : Nat} (hi : i < rs.length) (d : D3) (hg : W.grownBy W' (rs[i].2.2).ownBlock) (ho : W'.ownsRow base 54 3 v' (rs[i].1.dims.length + 1) (cellsS rs[i].1.dims ++ [.int .i64 d.1, .int .i64 d.2.1, .int .i64 d.2.2])) {g c : Nat} (hv : v = .slice (some ⟨g, 0, none⟩) rs.length c) :
    OwnReg (W'.setCell ⟨g, i * 5 + 4, none⟩ v') base v (rs.set i (more rs[i].1 d, rs[i].2.1, v')) := by
  subst hv
  have hri := h.2 rs[i] (List.getElem_mem hi)
  have h1 := own_apart h.1 hri.2.2 (by decide) hg
  obtain ⟨h2, hg2⟩ := h1.stored (i * 5 + 4) v'
  have hL : ∃ cs, Lies W' g 45 cs := by
    rcases h1.2 with ⟨e, -⟩ | ⟨g', cap, cur, e, -, hh, -⟩
    · cases e
    · injection e with e1
      injection e1 with e1
      injection e1 with e1
      subst e1
      exact ⟨cur, hh⟩
  obtain ⟨cs, hL⟩ := hL
  refine ⟨?_, fun r hr => ?_⟩
  · rw [cellsT_set hi (r' := (more rs[i].1 d, rs[i].2.1, v')) (v := v') rfl, List.length_set]; exact h2
  · obtain ⟨j, hj, rfl⟩ := List.getElem_of_mem hr
    rw [List.getElem_set]
    have hj2 : j < rs.length := by simpa using hj
    have hrj := h.2 rs[j] (List.getElem_mem hj2)
    by_cases e : i = j
    · subst e
      rw [if_pos rfl]
      refine ⟨hri.1, own_set (own_apart hri.2.1 hri.2.2 (by decide) hg) hL (by decide) _ _, ?_⟩
      have e2 : cellsS (more rs[i].1 d).dims = cellsS rs[i].1.dims ++ [.int .i64 d.1, .int .i64 d.2.1, .int .i64 d.2.2] := by simp [more, cellsS]
      have e3 : (more rs[i].1 d).dims.length = rs[i].1.dims.length + 1 := by simp [more]
      simp only [e2, e3]
      exact own_set ho hL (by decide) _ _
    · rw [if_neg e]
      refine ⟨hrj.1, own_set (own_apart hrj.2.1 hri.2.2 (by decide) hg) hL (by decide) _ _, own_set (hrj.2.2.kept hg ?_) hL (by decide) _ _⟩
      cases hbj : rs[j].2.2.ownBlock with
      | none => exact .inl rfl
      | some g' =>
        refine .inr fun e3 => ?_
        rcases Nat.lt_or_gt_of_ne e with hlt | hlt
        · exact List.pairwise_iff_getElem.1 hap i j hi hj2 hlt g' e3.symm hbj
        · exact List.pairwise_iff_getElem.1 hap j i hj2 hi hlt g' hbj e3.symm
set_option maxRecDepth 100000 in
set_option maxHeartbeats 16000000 in
theorem rTwinD_any {vI : Value} {xs : List Iss} {w : World} (h : RegAt w vI xs) : Calls Try.prog 18 #[.agg #[vI]] w fun e w' => ∃ v rs, e = .returned (.agg #[v]) ∧ OwnReg w' w.heap.size v rs ∧ rs.map (·.1) = xs ∧ DimsApart rs ∧ Below w.heap.size w w' := by
  obtain ⟨A, c, b, off, vi, vd, rfl, hA, hc⟩ := h.at_.row
  have hlen := h.len
  have HTW := Lib.hid (rTwin_v hc h.small)
  have HSM := Lib.hid h.small
  have HKK : Hid (∀ x ∈ xs, 0 ≤ x.k ∧ x.k ≤ 255) := Lib.hid (fun x hx => by
    obtain ⟨i, hi, rfl⟩ := List.getElem_of_mem hx
    exact (hc i hi).2.2.2.2.2.1)
  have HA := Lib.hid hA
  have HC := Lib.hid hc
  clear h hA hc
  obtain ⟨i0, hi0, hz0, hz1, hz2⟩ := info_parts infoQ
  have HD0 := Lib.hid (((Lies.made w 24 #[.slice A xs.length c]).alloc (.cells #[.slice none 0 0] 24)).alloc (.cells #[.slice none 0 0] 24))
  have HR0 := Lib.hid ((Lies.new (u := w.alloc (.cells #[.slice A xs.length c] 24)) (k := w.heap.size + 1) (t := 24) (cs := #[.slice none 0 0]) (by simp)).alloc (.cells #[.slice none 0 0] 24))
  have HU0 := Lib.hid (Lies.new (u := (w.alloc (.cells #[.slice A xs.length c] 24)).alloc (.cells #[.slice none 0 0] 24)) (k := w.heap.size + 1 + 1) (t := 24) (cs := #[.slice none 0 0]) (by simp))
  go_enter Try.func18, Try.ntmps18
  go_wp2_with fail
  go_loopw [4] (fun i wr => ∃ (k : Nat) (AO : Option Addr) (cO : Nat) (tv td : Nat → Value), k ≤ xs.length ∧ i = .int .i64 k ∧ Hid (Lies wr w.heap.size 24 #[.slice A xs.length c]) ∧ Hid (Lies wr (w.heap.size + 1) 24 #[.slice none 0 0]) ∧ Hid (Lies wr (w.heap.size + 1 + 1) 24 #[.slice AO k cO]) ∧ Hid (wr.ownsRow w.heap.size 45 5 (.slice AO k cO) k (cellsQ xs tv td k)) ∧ Hid (RowsQ wr w.heap.size xs tv td k) ∧ Hid (ApartQ td k) ∧ Below w.heap.size w wr) (fun i _ => xs.length - (intOf i).toNat)
  case atStart => exact ⟨0, none, 0, fun _ => .slice none 0 0, fun _ => .slice none 0 0, by omega, rfl, HD0, HR0, HU0, Lib.hid (World.ownsRow_nil _ _ _ _), Lib.hid (fun j hj h => by omega), Lib.hid (fun i j g hij hj => by omega), by (repeat' (first | (with_reducible first | exact Below.refl _ _ | assumption | refine Below.alloc ?_ ?_ _ | refine Below.setCell ?_ ?_ _ | refine below_row ?_ ?_ _ | refine Below.drew ?_ | refine below_drewN ?_ _ | refine Below.trans ?_ (Below.mono (by assumption) ?_)) | exact Nat.le_refl _ | omega | (simp; done) | (simp; omega) | exact Below.size (by assumption)))⟩
  case round =>
    obtain ⟨k, AO, cO, tv, td, hk, rfl, HD, HR, HU, HO, HQ, HP, hb⟩ := hrel
    have hz := hb.size
    have d0 := HD.out.cell 0
    have zd := HD.out.lt
    have zr := HR.out.lt
    have zu := HU.out.lt
    by_cases hlt : k < xs.length
    · obtain rfl := HA.out (by omega)
      have u0 := HU.out.cell 0
      have fu := HU.out.free 0
      obtain ⟨q0, q1, q2, q3, q4, -⟩ := (HC.out.after hb) k hlt
      obtain ⟨e1, e2⟩ := HC.out.slices hlt
      have kl1 : (k : Int) < (xs.length : Int) := by omega
      have HX := Lib.hid (HTW.out k hlt)
      have HPUT : Hid (∀ a b, cellsQ xs tv td k ++ [.int .i64 (xs[k].d), .int .i64 (xs[k].l), .int .u8 xs[k].k, a, b] = cellsQ xs (putV tv k a) (putV td k b) (k + 1)) := Lib.hid (fun a b => cellsQ_put hlt)
      have zc := cellsQ_len xs tv td k hk
      generalize vi k = v1 at *
      generalize vd k = v2 at *
      obtain ⟨A1, n1, c1, rfl⟩ := e1
      obtain ⟨A2, n2, c2, rfl⟩ := e2
      obtain ⟨wq, rfl⟩ : ∃ wq : World, wq = wr := ⟨_, rfl⟩
      have HEL := Lib.hid (fun i (hi : i < k) g (hg : (td i).ownBlock = some g) => own_lt (HQ.out i (by omega) hi).2 g hg)
      go_wp2_with fail
      go_region_law (first | (go_simp; go_at_call 64; refine (HX.out _ (by (repeat' (first | (with_reducible first | exact Below.refl _ _ | assumption | refine Below.alloc ?_ ?_ _ | refine Below.setCell ?_ ?_ _ | refine below_row ?_ ?_ _ | refine Below.drew ?_ | refine below_drewN ?_ _ | refine Below.trans ?_ (Below.mono (by assumption) ?_)) | exact Nat.le_refl _ | omega | (simp; done) | (simp; omega) | exact Below.size (by assumption))))).mono ?_; rintro e w2 ⟨v, rfl, hown, hb2⟩; have HD2 := Lib.hid (HD.out.drew.after hb2); have HR2 := Lib.hid (HR.out.drew.after hb2); have HU2 := Lib.hid (HU.out.drew.after hb2); have HO2 := Lib.hid (own_after HO.out.drew hb2); have HQ2 := Lib.hid (HQ.out.map (fun _ _ _ _ _ _ ho => own_after (World.ownsRow.drew ho) hb2)); obtain ⟨vi', vd', rfl, -, ho1, ho2⟩ := hown; have HI2 := Lib.hid (own_less (base' := w.heap.size) ho1 (by first | omega | (simp; omega))); have HS2 := Lib.hid (own_less (base' := w.heap.size) ho2 (by first | omega | (simp; omega))); obtain ⟨A3, c3, g3, rfl, -⟩ := own_form ho1; obtain ⟨A4, c4, g4, rfl, -⟩ := own_form ho2; have HSB : Hid (∀ g, (Value.slice A4 xs[k].dims.length c4).ownBlock = some g → wq.heap.size ≤ g) := Lib.hid (fun g hg => Nat.le_trans (by first | exact Nat.le_refl _ | (simp; done) | (simp; omega)) (own_ge ho2 g hg)); have hbw2 : Below w.heap.size w w2 := (by (repeat' (first | (with_reducible first | exact Below.refl _ _ | assumption | refine Below.alloc ?_ ?_ _ | refine Below.setCell ?_ ?_ _ | refine below_row ?_ ?_ _ | refine Below.drew ?_ | refine below_drewN ?_ _ | refine Below.trans ?_ (Below.mono (by assumption) ?_)) | exact Nat.le_refl _ | omega | (simp; done) | (simp; omega) | exact Below.size (by assumption)))); have hw2s := hbw2.size; clear ho1 ho2 hb2; have d2 := HD2.out.cell 0; have u2 := HU2.out.cell 0; have f2 := HU2.out.free 0; have zd2 := HD2.out.lt; have zr2 := HR2.out.lt; have zu2 := HU2.out.lt) | (refine step_row (o := ⟨some 21, _, _, _, _, _⟩) (by rfl) (.tmp 13) (.tmp 20) 22 (by rfl) w.heap.size 45 i0 zIss 5 72 Try.underlying22 hi0 hz0 hz1 hz2 rfl (by decide) (.slice AO k cO) k (cellsQ xs tv td k) (by rfl) ?_ (some ⟨_, 0, none⟩) 1 1 [.int .i64 (xs[k].d), .int .i64 (xs[k].l), .int .u8 xs[k].k, .slice A3 xs[k].items.length c3, .slice A4 xs[k].dims.length c4] (by rfl) (fun h => by cases h) (by rfl) ?_ (by simp [Value.oneCell']) (by unfold maxLen; omega) (by omega) (by first | omega | (simp; omega)) ?_; (focus (first | exact HO2.out.alloc _ | exact (HO2.out.alloc _).drew)); (focus (intro ad had; injection had with had; subst had; first | exact World.news_of_block (Lies.made _ _ _) | exact World.news_of_block (Lies.made _ _ _).drew)); intro v3 w3 ho3 hap3 hapo3 hbl3; have HU3 := Lib.hid (hap3 (w.heap.size + 1 + 1) 24 #[.slice AO k cO] (by decide) (HU2.out.alloc _)); have HR3 := Lib.hid (hap3 (w.heap.size + 1) 24 #[.slice none 0 0] (by decide) (HR2.out.alloc _)); have HD3 := Lib.hid (hap3 (w.heap.size) 24 #[.slice (some ⟨b, off, none⟩) xs.length c] (by decide) (HD2.out.alloc _)); have hb3 : Below w.heap.size w w3 := hbl3 w (by (repeat' (first | (with_reducible first | exact Below.refl _ _ | assumption | refine Below.alloc ?_ ?_ _ | refine Below.setCell ?_ ?_ _ | refine below_row ?_ ?_ _ | refine Below.drew ?_ | refine below_drewN ?_ _ | refine Below.trans ?_ (Below.mono (by assumption) ?_)) | exact Nat.le_refl _ | omega | (simp; done) | (simp; omega) | exact Below.size (by assumption)))) (Nat.le_refl _); have HI3 := Lib.hid (hapo3 _ _ _ _ _ _ (by decide) (HI2.out.alloc _)); have HS3 := Lib.hid (hapo3 _ _ _ _ _ _ (by decide) (HS2.out.alloc _)); have HQ3 := Lib.hid (HQ2.out.map (fun e s v n cs he ho => hapo3 _ e s v n cs (by rcases he with rfl | rfl <;> decide) (World.ownsRow.alloc ho _))); rw [HPUT.out] at ho3; have HO3 := Lib.hid ho3; obtain ⟨A5, c5, g5, rfl, -⟩ := own_form ho3; clear ho3 hap3 hapo3 hbl3; have u3 := HU3.out.cell 0; have f3 := HU3.out.free 0; have zu3 := HU3.out.lt))
      all_goals
        go_wp2_with fail
        go_roundw
        case rel =>
          exact ⟨k + 1, A5, c5, _, _, by omega, by go_num, Lib.hid (HD3.out.other (p := ⟨w.heap.size + 1 + 1, 0, none⟩) (by simp only; omega) _), Lib.hid (HR3.out.other (p := ⟨w.heap.size + 1 + 1, 0, none⟩) (by simp only; omega) _), Lib.hid (HU3.out.store 0 _), Lib.hid (own_set HO3.out HU3.out (by decide) 0 _), Lib.hid (rowsQ_next hlt (HQ3.out.map (fun e _ _ _ _ he ho => own_set ho HU3.out (by rcases he with rfl | rfl <;> decide) 0 _)) (own_set HI3.out HU3.out (by decide) 0 _) (own_set HS3.out HU3.out (by decide) 0 _)), Lib.hid (apart_next HP.out HEL.out HSB.out), by (repeat' (first | (with_reducible first | exact Below.refl _ _ | assumption | refine Below.alloc ?_ ?_ _ | refine Below.setCell ?_ ?_ _ | refine below_row ?_ ?_ _ | refine Below.drew ?_ | refine below_drewN ?_ _ | refine Below.trans ?_ (Below.mono (by assumption) ?_)) | exact Nat.le_refl _ | omega | (simp; done) | (simp; omega) | exact Below.size (by assumption)))⟩
        case measure => simp [intOf]; omega
    · have hke : k = xs.length := by omega
      subst hke
      have u0 := HU.out.cell 0
      have r0 := HR.out.cell 0
      have fr := HR.out.free 0
      obtain ⟨rs, hreg, hmap, hapt⟩ := reg_of_ownD (own_set HO.out HR.out (by decide) 0 (.slice AO xs.length cO)) (HQ.out.map (fun e _ _ _ _ he ho => own_set ho HR.out (by rcases he with rfl | rfl <;> decide) 0 (.slice AO xs.length cO))) HKK.out HP.out
      have HIA := Lib.hid hreg
      have HMP := Lib.hid hmap
      have HPT := Lib.hid hapt
      clear hreg hmap hapt
      go_wp2_with fail
      exact bodyPost_ret (results_cell_row rfl _ _ (w.heap.size + 1) _ _ (0, 0) _ rfl (HR.out.store 0 _) Try.underlying24 rfl (by kernel_rfl)) rfl ⟨_, rs, rfl, HIA.out, HMP.out, HPT.out, by (repeat' (first | (with_reducible first | exact Below.refl _ _ | assumption | refine Below.alloc ?_ ?_ _ | refine Below.setCell ?_ ?_ _ | refine below_row ?_ ?_ _ | refine Below.drew ?_ | refine below_drewN ?_ _ | refine Below.trans ?_ (Below.mono (by assumption) ?_)) | exact Nat.le_refl _ | omega | (simp; done) | (simp; omega) | exact Below.size (by assumption)))⟩
end Go.Proofs.Ytmhlbdighceogaa
