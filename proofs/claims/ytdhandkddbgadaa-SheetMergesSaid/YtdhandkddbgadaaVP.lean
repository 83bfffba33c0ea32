/- SheetMerges: the law's body. -/
import Derived.Test.YtdhandkddbgadaaVN
import Derived.Test.YtdhandkddbgadaaVO
namespace Go.Proofs.Ytdhandkddbgadaa
set_option linter.unusedVariables false
set_option linter.unusedSimpArgs false
open Go.RowKit Go.BigFrame

theorem rTwinC {vI : Value} {xs : List Iss} {w : World} (h : RegAt w vI xs) : Calls Try.prog 18 #[.agg #[vI]] w fun e w' => ∃ A c, e = .returned (.agg #[.slice A xs.length c]) ∧ RegAt w' (.slice A xs.length c) xs ∧ xs.length ≤ c ∧ Below w.heap.size w w' := by
  have hl := h.len
  have hs := h.small
  refine (rTwinO_any h).mono ?_
  rintro e w' ⟨v, rs, rfl, ho, hm, hb⟩
  obtain ⟨A, c, g, rfl, hc, -⟩ := ho.form
  have hlen : rs.length = xs.length := by rw [← hm, List.length_map]
  have hr := ho.reg (by omega) (by rw [hm]; exact hs)
  rw [hm, hlen] at hr
  rw [hlen] at hc ⊢
  exact ⟨A, c, rfl, hr, hc, hb⟩
set_option maxRecDepth 100000 in
set_option maxHeartbeats 16000000 in
theorem merges_great (A B : Option Addr) (c b off e b2 off2 : Nat) (xs ys : List Iss) (vi vd ui ud : Nat → Value) (w : World) (hm : xs.length ≤ 9223372036854775807) (hm2 : ∀ x ∈ xs, x.items.length ≤ 9223372036854775807 ∧ x.dims.length ≤ 9223372036854775807) (hm3 : ys.length ≤ 9223372036854775807) (hm4 : ∀ x ∈ ys, x.items.length ≤ 9223372036854775807 ∧ x.dims.length ≤ 9223372036854775807) (hA : 0 < xs.length → A = some ⟨b, off, none⟩) (hB : 0 < ys.length → B = some ⟨b2, off2, none⟩) (hc : IssRow w b off xs vi vd) (hd : IssRow w b2 off2 ys ui ud) (hg : (greatB xs || greatB ys) = true) :
    Calls Try.prog 6 #[.agg #[.slice A xs.length c], .agg #[.slice B ys.length e]] w fun e w' => e = .returned (.bool true) ∧ Below w.heap.size w w' := by
  have HG := Lib.hid (fun W (hW : Below w.heap.size w W) => rGreat_any A c b off xs vi vd W hm hm2 hA (hc.after hW))
  have HH := Lib.hid (fun W (hW : Below w.heap.size w W) => rGreat_any B e b2 off2 ys ui ud W hm3 hm4 hB (hd.after hW))
  have LJ : Hid (Lies ((w.alloc (.cells #[.slice A xs.length c] 24)).alloc (.cells #[.slice B ys.length e] 24)) (w.heap.size + 1) 24 #[.slice B ys.length e]) := Lib.hid (Lies.new (by simp))
  clear hA hB hc hd hm2 hm4
  by_cases h1 : greatB xs = true
  · rw [h1] at HG
    clear hg h1
    go_enter Try.func6, Try.ntmps6
    go_wp2_with fail
    refine (HG.out _ (by (repeat' (first | (with_reducible exact Below.refl _ _) | (with_reducible assumption) | (with_reducible refine Below.alloc ?_ ?_ _) | (with_reducible refine Below.setCell ?_ ?_ _) | (with_reducible refine below_row ?_ ?_ _) | (with_reducible refine Below.drew ?_) | (with_reducible refine below_drewN ?_ _) | (with_reducible refine Below.trans ?_ (Below.mono (by assumption) ?_)) | (first | exact Nat.le_refl _ | omega | (simp; done) | (simp; omega) | (exact Below.size (by assumption))))))).mono ?_
    rintro e w1 ⟨rfl, hb1⟩
    have s1 := hb1.size; try simp only [World.size_alloc, World.size_setCell, World.size_drew, setRow_size] at s1
    go_wp2
    go_ret
    exact ⟨rfl, by (repeat' (first | (with_reducible exact Below.refl _ _) | (with_reducible assumption) | (with_reducible refine Below.alloc ?_ ?_ _) | (with_reducible refine Below.setCell ?_ ?_ _) | (with_reducible refine below_row ?_ ?_ _) | (with_reducible refine Below.drew ?_) | (with_reducible refine below_drewN ?_ _) | (with_reducible refine Below.trans ?_ (Below.mono (by assumption) ?_)) | (first | exact Nat.le_refl _ | omega | (simp; done) | (simp; omega) | (exact Below.size (by assumption)))))⟩
  · rw [Bool.not_eq_true] at h1
    rw [h1, Bool.false_or] at hg
    rw [h1] at HG
    rw [hg] at HH
    clear hg h1
    go_enter Try.func6, Try.ntmps6
    go_wp2_with fail
    refine (HG.out _ (by (repeat' (first | (with_reducible exact Below.refl _ _) | (with_reducible assumption) | (with_reducible refine Below.alloc ?_ ?_ _) | (with_reducible refine Below.setCell ?_ ?_ _) | (with_reducible refine below_row ?_ ?_ _) | (with_reducible refine Below.drew ?_) | (with_reducible refine below_drewN ?_ _) | (with_reducible refine Below.trans ?_ (Below.mono (by assumption) ?_)) | (first | exact Nat.le_refl _ | omega | (simp; done) | (simp; omega) | (exact Below.size (by assumption))))))).mono ?_
    rintro e w1 ⟨rfl, hb1⟩
    have s1 := hb1.size; try simp only [World.size_alloc, World.size_setCell, World.size_drew, setRow_size] at s1
    have LJ1 := Lib.hid (LJ.out.after hb1)
    have y0 := LJ1.out.cell 0
    have zj := LJ1.out.lt
    have hbw1 : Below w.heap.size w w1 := by (repeat' (first | (with_reducible exact Below.refl _ _) | (with_reducible assumption) | (with_reducible refine Below.alloc ?_ ?_ _) | (with_reducible refine Below.setCell ?_ ?_ _) | (with_reducible refine below_row ?_ ?_ _) | (with_reducible refine Below.drew ?_) | (with_reducible refine below_drewN ?_ _) | (with_reducible refine Below.trans ?_ (Below.mono (by assumption) ?_)) | (first | exact Nat.le_refl _ | omega | (simp; done) | (simp; omega) | (exact Below.size (by assumption)))))
    clear hb1
    go_wp2_with fail
    refine (HH.out _ (by (repeat' (first | (with_reducible exact Below.refl _ _) | (with_reducible assumption) | (with_reducible refine Below.alloc ?_ ?_ _) | (with_reducible refine Below.setCell ?_ ?_ _) | (with_reducible refine below_row ?_ ?_ _) | (with_reducible refine Below.drew ?_) | (with_reducible refine below_drewN ?_ _) | (with_reducible refine Below.trans ?_ (Below.mono (by assumption) ?_)) | (first | exact Nat.le_refl _ | omega | (simp; done) | (simp; omega) | (exact Below.size (by assumption))))))).mono ?_
    rintro e w2 ⟨rfl, hb2⟩
    go_wp2
    go_ret
    exact ⟨rfl, by (repeat' (first | (with_reducible exact Below.refl _ _) | (with_reducible assumption) | (with_reducible refine Below.alloc ?_ ?_ _) | (with_reducible refine Below.setCell ?_ ?_ _) | (with_reducible refine below_row ?_ ?_ _) | (with_reducible refine Below.drew ?_) | (with_reducible refine below_drewN ?_ _) | (with_reducible refine Below.trans ?_ (Below.mono (by assumption) ?_)) | (first | exact Nat.le_refl _ | omega | (simp; done) | (simp; omega) | (exact Below.size (by assumption)))))⟩
theorem rSameRefs_w {P : List (Int × Int)} {u v : Value} {w : World} (h1 : RefsAt w u P) (h2 : RefsAt w v P) (hl : P.length ≤ 1000) : Calls Try.prog 42 #[u, v] w fun e w' => e = .returned (.bool true) ∧ Below w.heap.size w w' := by
  have := rSameRefs_v h1 h2 hl hl
  rw [decide_eq_true rfl] at this
  exact this
theorem clash_le (xs ys : List Iss) : (clashE xs ys).1.length ≤ xs.length := by
  unfold clashE
  split
  · simp
  · exact clashR_le xs ys xs.length
theorem merge_len (xs ys : List Iss) : (mergeE xs ys).1.length ≤ xs.length + ys.length := by
  unfold mergeE
  split
  · simp
  · split
    · simp
    · split
      · simp
      · exact joinL_len xs ys
theorem merge_small {xs ys : List Iss} {n : Nat} (hx : ∀ x ∈ xs, x.items.length ≤ n ∧ x.dims.length ≤ n) (hy : ∀ x ∈ ys, x.items.length ≤ n ∧ x.dims.length ≤ n) : ∀ x ∈ (mergeE xs ys).1, x.items.length ≤ n ∧ x.dims.length ≤ n := by
  unfold mergeE
  split
  · intro x h; cases h
  · split
    · intro x h; cases h
    · split
      · intro x h; cases h
      · exact join_small hx hy
theorem store1 {w : World} {g : Nat} {t : TypeId} {v : Value} (h : Lies w g t #[.slice none 0 0]) : Lies (w.setCell ⟨g, 0, none⟩ v) g t #[v] := h.store 0 v
theorem other1 {w : World} {g g' i : Nat} {t : TypeId} {cs : Array Value} {u : Value} (h : Lies w g t cs) (hn : g ≠ g') : Lies (w.setCell ⟨g', i, none⟩ u) g t cs := h.other (p := ⟨g', i, none⟩) hn u
theorem keep_one {w : World} {g i : Nat} {v0 v : Value} {p : Addr} (h : w.cell? p = some v) (hne : p.block ≠ g) : (w.setCell ⟨g, i, none⟩ v0).cell? p = some v := by
  have e : (w.setCell ⟨g, i, none⟩ v0).heap[p.block]? = w.heap[p.block]? := Below.heap_setCell w ⟨g, i, none⟩ v0 p.block hne
  rw [World.cell?_of_block e]
  exact h
theorem keep_new {w : World} {o : Obj} {v : Value} {p : Addr} (h : w.cell? p = some v) : (w.alloc o).cell? p = some v := by
  rw [World.cell?_of_block (Below.heap_alloc w o p.block (World.block_lt_of_cell? w _ h))]
  exact h
theorem regO {w : World} {base : Nat} {A : Option Addr} {c : Nat} {rs : List (Iss × Value × Value)} {xs : List Iss} (h : OwnReg w base (.slice A xs.length c) rs) (hm : rs.map (·.1) = xs) (hl : xs.length ≤ 1000) (hs : ∀ x ∈ xs, x.items.length ≤ 1000 ∧ x.dims.length ≤ 1000) : RegAt w (.slice A xs.length c) xs := by
  have hlen : rs.length = xs.length := by rw [← hm, List.length_map]
  have hr := h.reg (by omega) (by rw [hm]; exact hs)
  rw [hm] at hr
  exact hr
theorem rSame_t {w : World} {vI vJ : Value} {xs : List Iss} (h : RegAt w vI xs) (h2 : RegAt w vJ xs) : Calls Try.prog 31 #[.agg #[vI], .agg #[vJ]] w fun e w' => e = .returned (.bool true) ∧ Below w.heap.size w w' := by
  have := rSame_v h h2
  rw [decide_eq_true rfl] at this
  exact this
theorem OwnReg.capn {w : World} {base n : Nat} {A : Option Addr} {c : Nat} {rs : List (Iss × Value × Value)} (h : OwnReg w base (.slice A n c) rs) : n ≤ c := h.cap _ _ _ rfl
theorem capOf {A : Option Addr} {n c : Nat} (h : n ≤ c) : CapOk (.slice A n c) := by
  intro A' n' c' e
  injection e with e1 e2 e3
  omega
theorem OwnReg.set1 {w : World} {base : Nat} {v : Value} {rs : List (Iss × Value × Value)} (h : OwnReg w base v rs) {g : Nat} (hl : Lies w g 24 #[.slice none 0 0]) (i : Nat) (u : Value) : OwnReg (w.setCell ⟨g, i, none⟩ u) base v rs := h.set hl (by decide) (by decide) (by decide) i u
theorem OwnReg.new {w : World} {base : Nat} {v : Value} {rs : List (Iss × Value × Value)} (h : OwnReg w base v rs) (o : Obj) : OwnReg (w.alloc o) base v rs := h.after ((Below.refl _ w).alloc (Nat.le_refl _) o)
theorem rTwinD {vI : Value} {xs : List Iss} {w : World} (h : RegAt w vI xs) : Calls Try.prog 18 #[.agg #[vI]] w fun e w' => ∃ A c rs, e = .returned (.agg #[.slice A xs.length c]) ∧ OwnReg w' w.heap.size (.slice A xs.length c) rs ∧ rs.map (·.1) = xs ∧ Below w.heap.size w w' := by
  refine (rTwinO_any h).mono ?_
  rintro e w' ⟨v, rs, rfl, ho, hm, hb⟩
  obtain ⟨A, c, g, rfl, hc, -⟩ := ho.form
  have hlen : rs.length = xs.length := by rw [← hm, List.length_map]
  rw [hlen] at ho ⊢
  exact ⟨A, c, rs, rfl, ho, hm, hb⟩
theorem two_aa {w0 w4 : World} {v1 v2 : Value} (hb : Below w0.heap.size w0 w4) : Lies ((w4.alloc (.cells #[v1] 24)).alloc (.cells #[v2] 24)) w4.heap.size 24 #[v1] ∧ Lies ((w4.alloc (.cells #[v1] 24)).alloc (.cells #[v2] 24)) (w4.heap.size + 1) 24 #[v2] ∧ (∀ base v rs, OwnReg w4 base v rs → OwnReg ((w4.alloc (.cells #[v1] 24)).alloc (.cells #[v2] 24)) base v rs) ∧ Below w0.heap.size w0 ((w4.alloc (.cells #[v1] 24)).alloc (.cells #[v2] 24)) :=
  ⟨(Lies.made w4 24 #[v1]).alloc _, Lies.new (by simp), fun _ _ _ h => (h.new _).new _, (hb.alloc hb.size _).alloc (by have := hb.size; simp; omega) _⟩
theorem two_sa {w0 w4 : World} {v1 v2 : Value} {b1 : Nat} (hb : Below w0.heap.size w0 w4) (L1 : Lies w4 b1 24 #[.slice none 0 0]) (h1 : w0.heap.size ≤ b1) : Lies ((w4.setCell ⟨b1, 0, none⟩ v1).alloc (.cells #[v2] 24)) b1 24 #[v1] ∧ Lies ((w4.setCell ⟨b1, 0, none⟩ v1).alloc (.cells #[v2] 24)) w4.heap.size 24 #[v2] ∧ (∀ base v rs, OwnReg w4 base v rs → OwnReg ((w4.setCell ⟨b1, 0, none⟩ v1).alloc (.cells #[v2] 24)) base v rs) ∧ Below w0.heap.size w0 ((w4.setCell ⟨b1, 0, none⟩ v1).alloc (.cells #[v2] 24)) := by
  have hB : Below w0.heap.size w0 (w4.setCell ⟨b1, 0, none⟩ v1) := hb.setCell (p := ⟨b1, 0, none⟩) h1 v1
  exact ⟨(store1 L1).alloc _, Lies.new (by simp), fun _ _ _ h => (h.set1 L1 0 v1).new _, hB.alloc hB.size _⟩
theorem two_ss {w0 w4 : World} {v1 v2 : Value} {b1 b2 : Nat} (hb : Below w0.heap.size w0 w4) (L1 : Lies w4 b1 24 #[.slice none 0 0]) (L2 : Lies w4 b2 24 #[.slice none 0 0]) (h1 : w0.heap.size ≤ b1) (h2 : w0.heap.size ≤ b2) (hne : b1 ≠ b2) : Lies ((w4.setCell ⟨b1, 0, none⟩ v1).setCell ⟨b2, 0, none⟩ v2) b1 24 #[v1] ∧ Lies ((w4.setCell ⟨b1, 0, none⟩ v1).setCell ⟨b2, 0, none⟩ v2) b2 24 #[v2] ∧ (∀ base v rs, OwnReg w4 base v rs → OwnReg ((w4.setCell ⟨b1, 0, none⟩ v1).setCell ⟨b2, 0, none⟩ v2) base v rs) ∧ Below w0.heap.size w0 ((w4.setCell ⟨b1, 0, none⟩ v1).setCell ⟨b2, 0, none⟩ v2) := by
  have L2' : Lies (w4.setCell ⟨b1, 0, none⟩ v1) b2 24 #[.slice none 0 0] := other1 L2 (fun e => hne e.symm)
  exact ⟨other1 (store1 L1) hne, store1 L2', fun _ _ _ h => (h.set1 L1 0 v1).set1 L2' 0 v2, (hb.setCell (p := ⟨b1, 0, none⟩) h1 v1).setCell (p := ⟨b2, 0, none⟩) h2 v2⟩
set_option maxRecDepth 100000 in
set_option maxHeartbeats 16000000 in
theorem merges_small (A B : Option Addr) (c b off e b2 off2 : Nat) (xs ys : List Iss) (vi vd ui ud : Nat → Value) (w : World) (hm : xs.length ≤ 9223372036854775807) (hm2 : ∀ x ∈ xs, x.items.length ≤ 9223372036854775807 ∧ x.dims.length ≤ 9223372036854775807) (hm3 : ys.length ≤ 9223372036854775807) (hm4 : ∀ x ∈ ys, x.items.length ≤ 9223372036854775807 ∧ x.dims.length ≤ 9223372036854775807) (hA : 0 < xs.length → A = some ⟨b, off, none⟩) (hB : 0 < ys.length → B = some ⟨b2, off2, none⟩) (hc : IssRow w b off xs vi vd) (hd : IssRow w b2 off2 ys ui ud) (hg : greatB xs = false) (hg2 : greatB ys = false) :
    Calls Try.prog 6 #[.agg #[.slice A xs.length c], .agg #[.slice B ys.length e]] w fun e w' => e = .returned (.bool true) ∧ Below w.heap.size w w' := by
  have HG := Lib.hid (fun W (hW : Below w.heap.size w W) => rGreat_any A c b off xs vi vd W hm hm2 hA (hc.after hW))
  have HH := Lib.hid (fun W (hW : Below w.heap.size w W) => rGreat_any B e b2 off2 ys ui ud W hm3 hm4 hB (hd.after hW))
  rw [hg] at HG
  rw [hg2] at HH
  obtain ⟨hlen, hsml⟩ := great_no hg
  obtain ⟨hlen2, hsml2⟩ := great_no hg2
  have hr : RegAt w (.slice A xs.length c) xs := ⟨⟨A, c, b, off, rfl, hA, fun i hi => ⟨vi i, vd i, hc i hi⟩⟩, by omega, fun x hx => ⟨by have := (hsml x hx).1; omega, by have := (hsml x hx).2; omega⟩⟩
  have hr2 : RegAt w (.slice B ys.length e) ys := ⟨⟨B, e, b2, off2, rfl, hB, fun i hi => ⟨ui i, ud i, hd i hi⟩⟩, by omega, fun x hx => ⟨by have := (hsml2 x hx).1; omega, by have := (hsml2 x hx).2; omega⟩⟩
  have HT1 := Lib.hid (fun W (hW : Below w.heap.size w W) => rTwinD (hr.after hW))
  have HT2 := Lib.hid (fun W (hW : Below w.heap.size w W) => rTwinD (hr2.after hW))
  have HA1 := Lib.hid (fun W (hW : Below w.heap.size w W) => hr.after hW)
  have HA2 := Lib.hid (fun W (hW : Below w.heap.size w W) => hr2.after hW)
  have HS1 := Lib.hid hr.small
  have HS2 := Lib.hid hr2.small
  have HC := Lib.hid (fun W (hW : Below w.heap.size w W) => rClash_any (hr.after hW) (hr2.after hW))
  have HM := Lib.hid (fun W (hW : Below w.heap.size w W) => rMerge_any (hr.after hW) (hr2.after hW))
  have LI := Lib.hid ((Lies.made w 24 #[.slice A xs.length c]).alloc (.cells #[.slice B ys.length e] 24))
  have LJ : Hid (Lies ((w.alloc (.cells #[.slice A xs.length c] 24)).alloc (.cells #[.slice B ys.length e] 24)) (w.heap.size + 1) 24 #[.slice B ys.length e]) := Lib.hid (Lies.new (by simp))
  clear hA hB hc hd hm2 hm4 hg hg2 hsml hsml2 hr hr2 hm hm3
  go_enter Try.func6, Try.ntmps6
  go_wp2_with fail
  refine (HG.out _ (by (repeat' (first | (with_reducible exact Below.refl _ _) | (with_reducible assumption) | (with_reducible refine Below.alloc ?_ ?_ _) | (with_reducible refine Below.setCell ?_ ?_ _) | (with_reducible refine below_row ?_ ?_ _) | (with_reducible refine Below.drew ?_) | (with_reducible refine below_drewN ?_ _) | (with_reducible refine Below.trans ?_ (Below.mono (by assumption) ?_)) | (first | exact Nat.le_refl _ | omega | (simp; done) | (simp; omega) | (exact Below.size (by assumption))))))).mono ?_
  rintro e1 w1 ⟨rfl, hb1⟩
  have hbw1 : Below w.heap.size w w1 := by (repeat' (first | (with_reducible exact Below.refl _ _) | (with_reducible assumption) | (with_reducible refine Below.alloc ?_ ?_ _) | (with_reducible refine Below.setCell ?_ ?_ _) | (with_reducible refine below_row ?_ ?_ _) | (with_reducible refine Below.drew ?_) | (with_reducible refine below_drewN ?_ _) | (with_reducible refine Below.trans ?_ (Below.mono (by assumption) ?_)) | (first | exact Nat.le_refl _ | omega | (simp; done) | (simp; omega) | (exact Below.size (by assumption)))))
  have LI1 := Lib.hid (LI.out.after hb1)
  have LJ1 := Lib.hid (LJ.out.after hb1)
  have y0 := LJ1.out.cell 0
  have zj := LJ1.out.lt
  clear hb1 HG LI LJ
  go_wp2_with fail
  refine (HH.out _ (by (repeat' (first | (with_reducible exact Below.refl _ _) | (with_reducible assumption) | (with_reducible refine Below.alloc ?_ ?_ _) | (with_reducible refine Below.setCell ?_ ?_ _) | (with_reducible refine below_row ?_ ?_ _) | (with_reducible refine Below.drew ?_) | (with_reducible refine below_drewN ?_ _) | (with_reducible refine Below.trans ?_ (Below.mono (by assumption) ?_)) | (first | exact Nat.le_refl _ | omega | (simp; done) | (simp; omega) | (exact Below.size (by assumption))))))).mono ?_
  rintro e2 w0 ⟨rfl, hb2⟩
  have hb12 : Below w1.heap.size w1 w0 := by (repeat' (first | (with_reducible exact Below.refl _ _) | (with_reducible assumption) | (with_reducible refine Below.alloc ?_ ?_ _) | (with_reducible refine Below.setCell ?_ ?_ _) | (with_reducible refine below_row ?_ ?_ _) | (with_reducible refine Below.drew ?_) | (with_reducible refine below_drewN ?_ _) | (with_reducible refine Below.trans ?_ (Below.mono (by assumption) ?_)) | (first | exact Nat.le_refl _ | omega | (simp; done) | (simp; omega) | (exact Below.size (by assumption)))))
  have hbw0 : Below w.heap.size w w0 := hbw1.trans (hb12.mono hbw1.size)
  have hs0 := hbw0.size
  have HREG0 := Lib.hid (fun W (hW : Below w0.heap.size w0 W) => And.intro (LI1.out.after (hb12.trans (hW.mono hb12.size))) (LJ1.out.after (hb12.trans (hW.mono hb12.size))))
  clear y0 zj hb2 HH
  have hal0 := HREG0.out w0 (Below.refl _ _)
  have m00 := hal0.1.cell 0
  have m01 := hal0.2.cell 0
  have m0z := hal0.1.lt
  have m0y := hal0.2.lt
  clear hal0 LI1 LJ1 hb12
  go_upto_region 3 with fail
  go_cut [5, 6] (fun s5 s6 wx => ∃ (g5 g6 : Nat) (A3 : Option Addr) (c3 : Nat) (A4 : Option Addr) (c4 : Nat), s5 = .pointer (some ⟨g5, 0, none⟩) ∧ s6 = .pointer (some ⟨g6, 0, none⟩) ∧ Hid (Lies wx g5 24 #[.slice A3 xs.length c3]) ∧ Hid (Lies wx g6 24 #[.slice A4 ys.length c4]) ∧ Hid (RegAt wx (.slice A3 xs.length c3) xs) ∧ Hid (RegAt wx (.slice A4 ys.length c4) ys) ∧ xs.length ≤ c3 ∧ ys.length ≤ c4 ∧ Below w0.heap.size w0 wx)
  case first =>
    have k1 : ¬ w0.heap.size = w.heap.size := by omega
    have k2 : ¬ w0.heap.size = w.heap.size + 1 := by omega
    have k3 : ¬ w.heap.size = w0.heap.size := by omega
    have k4 : ¬ w.heap.size + 1 = w0.heap.size := by omega
    go_region_held3 (fun W => W.cell? ⟨w.heap.size, 0, none⟩ = some (.slice A xs.length c) ∧ W.cell? ⟨w.heap.size + 1, 0, none⟩ = some (.slice B ys.length e)) (first | (((try dsimp only); (refine ⟨?_, ?_⟩); (all_goals (repeat' (first | assumption | (with_reducible refine keep_one ?_ ?_) | (with_reducible refine keep_new ?_) | (simp only; omega))))); done) | go_keep) (first
      | (go_at_call 18; (with_reducible refine (HT1.out _ (by (repeat' (first | (with_reducible exact Below.refl _ _) | (with_reducible assumption) | (with_reducible refine Below.alloc ?_ ?_ _) | (with_reducible refine Below.setCell ?_ ?_ _) | (with_reducible refine below_row ?_ ?_ _) | (with_reducible refine Below.drew ?_) | (with_reducible refine below_drewN ?_ _) | (with_reducible refine Below.trans ?_ (Below.mono (by assumption) ?_)) | (first | exact Nat.le_refl _ | omega | (simp; done) | (simp; omega) | (exact Below.size (by assumption))))))).mono ?_); rintro e3 w3 ⟨A3, c3, rs3, rfl, ho3, hm3, hb3⟩; have hb03 : Below w0.heap.size w0 w3 := (by (repeat' (first | (with_reducible exact Below.refl _ _) | (with_reducible assumption) | (with_reducible refine Below.alloc ?_ ?_ _) | (with_reducible refine Below.setCell ?_ ?_ _) | (with_reducible refine below_row ?_ ?_ _) | (with_reducible refine Below.drew ?_) | (with_reducible refine below_drewN ?_ _) | (with_reducible refine Below.trans ?_ (Below.mono (by assumption) ?_)) | (first | exact Nat.le_refl _ | omega | (simp; done) | (simp; omega) | (exact Below.size (by assumption)))))); have hs3 := hb03.size; have HO3 := Lib.hid (OwnReg.less ho3 (show w.heap.size ≤ _ by first | exact hs0 | (simp; done) | (simp; omega))); have HM3 := Lib.hid hm3; have hal3 := HREG0.out w3 hb03; have m30 := hal3.1.cell 0; have m31 := hal3.2.cell 0; have m3z := hal3.1.lt; have m3y := hal3.2.lt; clear hal3; (first | (have P1 : Lies w3 w0.heap.size 24 #[.slice none 0 0] := ((Lies.made w0.drew 24 #[.slice none 0 0]).alloc _).after hb3; have P2 : Lies w3 (w0.heap.size + 1) 24 #[.slice none 0 0] := (Lies.new (u := w0.drew.alloc (.cells #[.slice none 0 0] 24)) (k := w0.heap.size + 1) (t := 24) (cs := #[.slice none 0 0]) (by simp)).after hb3; have p1c := P1.cell 0; have p1f := P1.free 0; have p1z := P1.lt; have HP1 := Lib.hid P1; clear P1; have p2c := P2.cell 0; have p2f := P2.free 0; have p2z := P2.lt; have HP2 := Lib.hid P2; clear P2;) | (have P1 : Lies w3 w0.heap.size 24 #[.slice none 0 0] := (Lies.made w0.drew 24 #[.slice none 0 0]).after hb3; have p1c := P1.cell 0; have p1f := P1.free 0; have p1z := P1.lt; have HP1 := Lib.hid P1; clear P1;) | skip); clear hb3 ho3 hm3)
      | (go_at_call 18; (with_reducible refine (HT2.out _ (by (repeat' (first | (with_reducible exact Below.refl _ _) | (with_reducible assumption) | (with_reducible refine Below.alloc ?_ ?_ _) | (with_reducible refine Below.setCell ?_ ?_ _) | (with_reducible refine below_row ?_ ?_ _) | (with_reducible refine Below.drew ?_) | (with_reducible refine below_drewN ?_ _) | (with_reducible refine Below.trans ?_ (Below.mono (by assumption) ?_)) | (first | exact Nat.le_refl _ | omega | (simp; done) | (simp; omega) | (exact Below.size (by assumption))))))).mono ?_); rintro e4 w4 ⟨A4, c4, rs4, rfl, ho4, hm4, hb4⟩; have hb34 : Below w3.heap.size w3 w4 := (by (repeat' (first | (with_reducible exact Below.refl _ _) | (with_reducible assumption) | (with_reducible refine Below.alloc ?_ ?_ _) | (with_reducible refine Below.setCell ?_ ?_ _) | (with_reducible refine below_row ?_ ?_ _) | (with_reducible refine Below.drew ?_) | (with_reducible refine below_drewN ?_ _) | (with_reducible refine Below.trans ?_ (Below.mono (by assumption) ?_)) | (first | exact Nat.le_refl _ | omega | (simp; done) | (simp; omega) | (exact Below.size (by assumption)))))); have hs4 := hb34.size; have hb04 : Below w0.heap.size w0 w4 := hb03.trans (hb34.mono hs3); have HO4 := Lib.hid (OwnReg.less ho4 (show w.heap.size ≤ _ by first | (exact Nat.le_trans hs0 hs3) | (simp; omega))); have HM4 := Lib.hid hm4; have HO34 := Lib.hid (HO3.out.after hb34); have hal4 := HREG0.out w4 hb04; have m40 := hal4.1.cell 0; have m41 := hal4.2.cell 0; have m4z := hal4.1.lt; have m4y := hal4.2.lt; clear hal4; (first | (have R1 := HP1.out.after hb34; have r1c := R1.cell 0; have r1f := R1.free 0; have r1z := R1.lt; have HR1 := Lib.hid R1; clear R1;) | skip); (first | (have R2 := HP2.out.after hb34; have r2c := R2.cell 0; have r2f := R2.free 0; have r2z := R2.lt; have HR2 := Lib.hid R2; clear R2;) | skip); (first | (have Q1 : Lies w4 w3.heap.size 24 #[.slice none 0 0] := ((Lies.made w3 24 #[.slice none 0 0]).alloc _).after hb4; have Q2 : Lies w4 (w3.heap.size + 1) 24 #[.slice none 0 0] := (Lies.new (u := w3.alloc (.cells #[.slice none 0 0] 24)) (k := w3.heap.size + 1) (t := 24) (cs := #[.slice none 0 0]) (by simp)).after hb4; have q1c := Q1.cell 0; have q1f := Q1.free 0; have q1z := Q1.lt; have HQ1 := Lib.hid Q1; clear Q1; have q2c := Q2.cell 0; have q2f := Q2.free 0; have q2z := Q2.lt; have HQ2 := Lib.hid Q2; clear Q2;) | (have Q1 : Lies w4 w3.heap.size 24 #[.slice none 0 0] := (Lies.made w3 24 #[.slice none 0 0]).after hb4; have q1c := Q1.cell 0; have q1f := Q1.free 0; have q1z := Q1.lt; have HQ1 := Lib.hid Q1; clear Q1;) | skip); clear hb4 ho4 hm4))
    all_goals (rename (_ ∧ _) => HHx; clear HHx)
    all_goals (go_wp2_with fail; go_meet)
    all_goals first
      | (obtain ⟨t1, t2, t3, t4⟩ := two_aa (w4 := w4) (v1 := .slice A3 xs.length c3) (v2 := .slice A4 ys.length c4) hb04; have HRA := Lib.hid (regO (t3 _ _ _ HO34.out) HM3.out (by omega) HS1.out); have HRB := Lib.hid (regO (t3 _ _ _ HO4.out) HM4.out (by omega) HS2.out); have HCA := HO3.out.capn; have HCB := HO4.out.capn; (with_reducible exact ⟨_, _, A3, c3, A4, c4, rfl, rfl, Lib.hid t1, Lib.hid t2, HRA, HRB, HCA, HCB, t4⟩))
      | (obtain ⟨t1, t2, t3, t4⟩ := two_aa (w4 := w4) (v1 := .slice A4 ys.length c4) (v2 := .slice A3 xs.length c3) hb04; have HRA := Lib.hid (regO (t3 _ _ _ HO34.out) HM3.out (by omega) HS1.out); have HRB := Lib.hid (regO (t3 _ _ _ HO4.out) HM4.out (by omega) HS2.out); have HCA := HO3.out.capn; have HCB := HO4.out.capn; (with_reducible exact ⟨_, _, A3, c3, A4, c4, rfl, rfl, Lib.hid t2, Lib.hid t1, HRA, HRB, HCA, HCB, t4⟩))
      | (obtain ⟨t1, t2, t3, t4⟩ := two_sa (w4 := w4) (b1 := w0.heap.size) (v1 := .slice A3 xs.length c3) (v2 := .slice A4 ys.length c4) hb04 HR1.out (by omega); have HRA := Lib.hid (regO (t3 _ _ _ HO34.out) HM3.out (by omega) HS1.out); have HRB := Lib.hid (regO (t3 _ _ _ HO4.out) HM4.out (by omega) HS2.out); have HCA := HO3.out.capn; have HCB := HO4.out.capn; (with_reducible exact ⟨_, _, A3, c3, A4, c4, rfl, rfl, Lib.hid t1, Lib.hid t2, HRA, HRB, HCA, HCB, t4⟩))
      | (obtain ⟨t1, t2, t3, t4⟩ := two_sa (w4 := w4) (b1 := w0.heap.size) (v1 := .slice A4 ys.length c4) (v2 := .slice A3 xs.length c3) hb04 HR1.out (by omega); have HRA := Lib.hid (regO (t3 _ _ _ HO34.out) HM3.out (by omega) HS1.out); have HRB := Lib.hid (regO (t3 _ _ _ HO4.out) HM4.out (by omega) HS2.out); have HCA := HO3.out.capn; have HCB := HO4.out.capn; (with_reducible exact ⟨_, _, A3, c3, A4, c4, rfl, rfl, Lib.hid t2, Lib.hid t1, HRA, HRB, HCA, HCB, t4⟩))
      | (obtain ⟨t1, t2, t3, t4⟩ := two_sa (w4 := w4) (b1 := w3.heap.size) (v1 := .slice A3 xs.length c3) (v2 := .slice A4 ys.length c4) hb04 HQ1.out (by omega); have HRA := Lib.hid (regO (t3 _ _ _ HO34.out) HM3.out (by omega) HS1.out); have HRB := Lib.hid (regO (t3 _ _ _ HO4.out) HM4.out (by omega) HS2.out); have HCA := HO3.out.capn; have HCB := HO4.out.capn; (with_reducible exact ⟨_, _, A3, c3, A4, c4, rfl, rfl, Lib.hid t1, Lib.hid t2, HRA, HRB, HCA, HCB, t4⟩))
      | (obtain ⟨t1, t2, t3, t4⟩ := two_sa (w4 := w4) (b1 := w3.heap.size) (v1 := .slice A4 ys.length c4) (v2 := .slice A3 xs.length c3) hb04 HQ1.out (by omega); have HRA := Lib.hid (regO (t3 _ _ _ HO34.out) HM3.out (by omega) HS1.out); have HRB := Lib.hid (regO (t3 _ _ _ HO4.out) HM4.out (by omega) HS2.out); have HCA := HO3.out.capn; have HCB := HO4.out.capn; (with_reducible exact ⟨_, _, A3, c3, A4, c4, rfl, rfl, Lib.hid t2, Lib.hid t1, HRA, HRB, HCA, HCB, t4⟩))
      | (obtain ⟨t1, t2, t3, t4⟩ := two_ss (w4 := w4) (b1 := w0.heap.size) (b2 := w0.heap.size + 1) (v1 := .slice A3 xs.length c3) (v2 := .slice A4 ys.length c4) hb04 HR1.out HR2.out (by omega) (by omega) (by omega); have HRA := Lib.hid (regO (t3 _ _ _ HO34.out) HM3.out (by omega) HS1.out); have HRB := Lib.hid (regO (t3 _ _ _ HO4.out) HM4.out (by omega) HS2.out); have HCA := HO3.out.capn; have HCB := HO4.out.capn; (with_reducible exact ⟨_, _, A3, c3, A4, c4, rfl, rfl, Lib.hid t1, Lib.hid t2, HRA, HRB, HCA, HCB, t4⟩))
      | (obtain ⟨t1, t2, t3, t4⟩ := two_ss (w4 := w4) (b1 := w0.heap.size) (b2 := w0.heap.size + 1) (v1 := .slice A4 ys.length c4) (v2 := .slice A3 xs.length c3) hb04 HR1.out HR2.out (by omega) (by omega) (by omega); have HRA := Lib.hid (regO (t3 _ _ _ HO34.out) HM3.out (by omega) HS1.out); have HRB := Lib.hid (regO (t3 _ _ _ HO4.out) HM4.out (by omega) HS2.out); have HCA := HO3.out.capn; have HCB := HO4.out.capn; (with_reducible exact ⟨_, _, A3, c3, A4, c4, rfl, rfl, Lib.hid t2, Lib.hid t1, HRA, HRB, HCA, HCB, t4⟩))
      | (obtain ⟨t1, t2, t3, t4⟩ := two_ss (w4 := w4) (b1 := w0.heap.size + 1) (b2 := w0.heap.size) (v1 := .slice A3 xs.length c3) (v2 := .slice A4 ys.length c4) hb04 HR2.out HR1.out (by omega) (by omega) (by omega); have HRA := Lib.hid (regO (t3 _ _ _ HO34.out) HM3.out (by omega) HS1.out); have HRB := Lib.hid (regO (t3 _ _ _ HO4.out) HM4.out (by omega) HS2.out); have HCA := HO3.out.capn; have HCB := HO4.out.capn; (with_reducible exact ⟨_, _, A3, c3, A4, c4, rfl, rfl, Lib.hid t1, Lib.hid t2, HRA, HRB, HCA, HCB, t4⟩))
      | (obtain ⟨t1, t2, t3, t4⟩ := two_ss (w4 := w4) (b1 := w0.heap.size + 1) (b2 := w0.heap.size) (v1 := .slice A4 ys.length c4) (v2 := .slice A3 xs.length c3) hb04 HR2.out HR1.out (by omega) (by omega) (by omega); have HRA := Lib.hid (regO (t3 _ _ _ HO34.out) HM3.out (by omega) HS1.out); have HRB := Lib.hid (regO (t3 _ _ _ HO4.out) HM4.out (by omega) HS2.out); have HCA := HO3.out.capn; have HCB := HO4.out.capn; (with_reducible exact ⟨_, _, A3, c3, A4, c4, rfl, rfl, Lib.hid t2, Lib.hid t1, HRA, HRB, HCA, HCB, t4⟩))
      | (obtain ⟨t1, t2, t3, t4⟩ := two_ss (w4 := w4) (b1 := w0.heap.size) (b2 := w3.heap.size) (v1 := .slice A3 xs.length c3) (v2 := .slice A4 ys.length c4) hb04 HR1.out HQ1.out (by omega) (by omega) (by omega); have HRA := Lib.hid (regO (t3 _ _ _ HO34.out) HM3.out (by omega) HS1.out); have HRB := Lib.hid (regO (t3 _ _ _ HO4.out) HM4.out (by omega) HS2.out); have HCA := HO3.out.capn; have HCB := HO4.out.capn; (with_reducible exact ⟨_, _, A3, c3, A4, c4, rfl, rfl, Lib.hid t1, Lib.hid t2, HRA, HRB, HCA, HCB, t4⟩))
      | (obtain ⟨t1, t2, t3, t4⟩ := two_ss (w4 := w4) (b1 := w0.heap.size) (b2 := w3.heap.size) (v1 := .slice A4 ys.length c4) (v2 := .slice A3 xs.length c3) hb04 HR1.out HQ1.out (by omega) (by omega) (by omega); have HRA := Lib.hid (regO (t3 _ _ _ HO34.out) HM3.out (by omega) HS1.out); have HRB := Lib.hid (regO (t3 _ _ _ HO4.out) HM4.out (by omega) HS2.out); have HCA := HO3.out.capn; have HCB := HO4.out.capn; (with_reducible exact ⟨_, _, A3, c3, A4, c4, rfl, rfl, Lib.hid t2, Lib.hid t1, HRA, HRB, HCA, HCB, t4⟩))
      | (obtain ⟨t1, t2, t3, t4⟩ := two_ss (w4 := w4) (b1 := w3.heap.size) (b2 := w0.heap.size) (v1 := .slice A3 xs.length c3) (v2 := .slice A4 ys.length c4) hb04 HQ1.out HR1.out (by omega) (by omega) (by omega); have HRA := Lib.hid (regO (t3 _ _ _ HO34.out) HM3.out (by omega) HS1.out); have HRB := Lib.hid (regO (t3 _ _ _ HO4.out) HM4.out (by omega) HS2.out); have HCA := HO3.out.capn; have HCB := HO4.out.capn; (with_reducible exact ⟨_, _, A3, c3, A4, c4, rfl, rfl, Lib.hid t1, Lib.hid t2, HRA, HRB, HCA, HCB, t4⟩))
      | (obtain ⟨t1, t2, t3, t4⟩ := two_ss (w4 := w4) (b1 := w3.heap.size) (b2 := w0.heap.size) (v1 := .slice A4 ys.length c4) (v2 := .slice A3 xs.length c3) hb04 HQ1.out HR1.out (by omega) (by omega) (by omega); have HRA := Lib.hid (regO (t3 _ _ _ HO34.out) HM3.out (by omega) HS1.out); have HRB := Lib.hid (regO (t3 _ _ _ HO4.out) HM4.out (by omega) HS2.out); have HCA := HO3.out.capn; have HCB := HO4.out.capn; (with_reducible exact ⟨_, _, A3, c3, A4, c4, rfl, rfl, Lib.hid t2, Lib.hid t1, HRA, HRB, HCA, HCB, t4⟩))
      | (obtain ⟨t1, t2, t3, t4⟩ := two_ss (w4 := w4) (b1 := w3.heap.size) (b2 := w3.heap.size + 1) (v1 := .slice A3 xs.length c3) (v2 := .slice A4 ys.length c4) hb04 HQ1.out HQ2.out (by omega) (by omega) (by omega); have HRA := Lib.hid (regO (t3 _ _ _ HO34.out) HM3.out (by omega) HS1.out); have HRB := Lib.hid (regO (t3 _ _ _ HO4.out) HM4.out (by omega) HS2.out); have HCA := HO3.out.capn; have HCB := HO4.out.capn; (with_reducible exact ⟨_, _, A3, c3, A4, c4, rfl, rfl, Lib.hid t1, Lib.hid t2, HRA, HRB, HCA, HCB, t4⟩))
      | (obtain ⟨t1, t2, t3, t4⟩ := two_ss (w4 := w4) (b1 := w3.heap.size) (b2 := w3.heap.size + 1) (v1 := .slice A4 ys.length c4) (v2 := .slice A3 xs.length c3) hb04 HQ1.out HQ2.out (by omega) (by omega) (by omega); have HRA := Lib.hid (regO (t3 _ _ _ HO34.out) HM3.out (by omega) HS1.out); have HRB := Lib.hid (regO (t3 _ _ _ HO4.out) HM4.out (by omega) HS2.out); have HCA := HO3.out.capn; have HCB := HO4.out.capn; (with_reducible exact ⟨_, _, A3, c3, A4, c4, rfl, rfl, Lib.hid t2, Lib.hid t1, HRA, HRB, HCA, HCB, t4⟩))
      | (obtain ⟨t1, t2, t3, t4⟩ := two_ss (w4 := w4) (b1 := w3.heap.size + 1) (b2 := w3.heap.size) (v1 := .slice A3 xs.length c3) (v2 := .slice A4 ys.length c4) hb04 HQ2.out HQ1.out (by omega) (by omega) (by omega); have HRA := Lib.hid (regO (t3 _ _ _ HO34.out) HM3.out (by omega) HS1.out); have HRB := Lib.hid (regO (t3 _ _ _ HO4.out) HM4.out (by omega) HS2.out); have HCA := HO3.out.capn; have HCB := HO4.out.capn; (with_reducible exact ⟨_, _, A3, c3, A4, c4, rfl, rfl, Lib.hid t1, Lib.hid t2, HRA, HRB, HCA, HCB, t4⟩))
      | (obtain ⟨t1, t2, t3, t4⟩ := two_ss (w4 := w4) (b1 := w3.heap.size + 1) (b2 := w3.heap.size) (v1 := .slice A4 ys.length c4) (v2 := .slice A3 xs.length c3) hb04 HQ2.out HQ1.out (by omega) (by omega) (by omega); have HRA := Lib.hid (regO (t3 _ _ _ HO34.out) HM3.out (by omega) HS1.out); have HRB := Lib.hid (regO (t3 _ _ _ HO4.out) HM4.out (by omega) HS2.out); have HCA := HO3.out.capn; have HCB := HO4.out.capn; (with_reducible exact ⟨_, _, A3, c3, A4, c4, rfl, rfl, Lib.hid t2, Lib.hid t1, HRA, HRB, HCA, HCB, t4⟩))
  case rest =>
    obtain ⟨g5, g6, A3, c3, A4, c4, rfl, rfl, L5, L6, HO, HN, hc3, hc4, hbx⟩ := hcut
    obtain ⟨wx, rfl⟩ : ∃ wx : World, wx = wc := ⟨_, rfl⟩
    have hbwx : Below w.heap.size w wx := hbw0.trans (hbx.mono hs0)
    have hsx := hbwx.size
    have HALL := Lib.hid (fun W (hW : Below wx.heap.size wx W) => And.intro (L5.out.after hW) (And.intro (L6.out.after hW) (HREG0.out W (hbx.trans (hW.mono hbx.size)))))
    have HSC := Lib.hid (fun W (hW : Below wx.heap.size wx W) => sClash_any (HO.out.after hW) (HN.out.after hW))
    have HSM := Lib.hid (fun W (hW : Below wx.heap.size wx W) => sMerge_any (HO.out.after hW) (HN.out.after hW) (capOf hc3) (capOf hc4))
    have HEND := Lib.hid (fun W (hW : Below wx.heap.size wx W) => And.intro (rSame_t (HO.out.after hW) (HA1.out W (hbwx.trans (hW.mono hsx)))) (rSame_t (HN.out.after hW) (HA2.out W (hbwx.trans (hW.mono hsx)))))
    have hmsm := merge_small HS1.out HS2.out
    have hmln := merge_len xs ys
    have hcln := clash_le xs ys
    have HMSM := Lib.hid hmsm
    clear m00 m01 m0z m0y L5 L6 HO HN HT1 HT2 HA1 HA2 HS1 HS2 HREG0 hc3 hc4 hmsm
    have hx4 := HALL.out wx (Below.refl _ _)
    have a5 := hx4.1.cell 0
    have a6 := hx4.2.1.cell 0
    have a2 := hx4.2.2.1.cell 0
    have a3 := hx4.2.2.2.cell 0
    have z5 := hx4.1.lt
    have z6 := hx4.2.1.lt
    have z2 := hx4.2.2.1.lt
    have z3 := hx4.2.2.2.lt
    clear hx4
    generalize clashE xs ys = CE at *
    generalize mergeE xs ys = ME at *
    go_wp2_with fail
    refine (HSC.out _ (by (repeat' (first | (with_reducible exact Below.refl _ _) | (with_reducible assumption) | (with_reducible refine Below.alloc ?_ ?_ _) | (with_reducible refine Below.setCell ?_ ?_ _) | (with_reducible refine below_row ?_ ?_ _) | (with_reducible refine Below.drew ?_) | (with_reducible refine below_drewN ?_ _) | (with_reducible refine Below.trans ?_ (Below.mono (by assumption) ?_)) | (first | exact Nat.le_refl _ | omega | (simp; done) | (simp; omega) | (exact Below.size (by assumption))))))).mono ?_
    rintro e5 w5 ⟨v5, rfl, hr5, hb5⟩
    have hbx5 : Below wx.heap.size wx w5 := by (repeat' (first | (with_reducible exact Below.refl _ _) | (with_reducible assumption) | (with_reducible refine Below.alloc ?_ ?_ _) | (with_reducible refine Below.setCell ?_ ?_ _) | (with_reducible refine below_row ?_ ?_ _) | (with_reducible refine Below.drew ?_) | (with_reducible refine below_drewN ?_ _) | (with_reducible refine Below.trans ?_ (Below.mono (by assumption) ?_)) | (first | exact Nat.le_refl _ | omega | (simp; done) | (simp; omega) | (exact Below.size (by assumption)))))
    have hbw5 : Below w.heap.size w w5 := hbwx.trans (hbx5.mono hsx)
    have HR5 := Lib.hid (fun W (hW : Below w5.heap.size w5 W) => hr5.after hW)
    obtain ⟨A5, c5, b5, o5, rfl, -⟩ := hr5
    have hx5 := HALL.out w5 hbx5
    have b5' := hx5.1.cell 0
    have b6' := hx5.2.1.cell 0
    have b2' := hx5.2.2.1.cell 0
    have b3' := hx5.2.2.2.cell 0
    have y5 := hx5.1.lt
    have y6 := hx5.2.1.lt
    have y2 := hx5.2.2.1.lt
    have y3 := hx5.2.2.2.lt
    clear hb5 hx5 a5 a6 a2 a3 z5 z6 z2 z3 HSC
    go_wp2_with fail
    refine (HC.out _ (by (repeat' (first | (with_reducible exact Below.refl _ _) | (with_reducible assumption) | (with_reducible refine Below.alloc ?_ ?_ _) | (with_reducible refine Below.setCell ?_ ?_ _) | (with_reducible refine below_row ?_ ?_ _) | (with_reducible refine Below.drew ?_) | (with_reducible refine below_drewN ?_ _) | (with_reducible refine Below.trans ?_ (Below.mono (by assumption) ?_)) | (first | exact Nat.le_refl _ | omega | (simp; done) | (simp; omega) | (exact Below.size (by assumption))))))).mono ?_
    rintro e6 w6 ⟨v6, rfl, hr6, hb6⟩
    have hb56 : Below w5.heap.size w5 w6 := by (repeat' (first | (with_reducible exact Below.refl _ _) | (with_reducible assumption) | (with_reducible refine Below.alloc ?_ ?_ _) | (with_reducible refine Below.setCell ?_ ?_ _) | (with_reducible refine below_row ?_ ?_ _) | (with_reducible refine Below.drew ?_) | (with_reducible refine below_drewN ?_ _) | (with_reducible refine Below.trans ?_ (Below.mono (by assumption) ?_)) | (first | exact Nat.le_refl _ | omega | (simp; done) | (simp; omega) | (exact Below.size (by assumption)))))
    have hbx6 : Below wx.heap.size wx w6 := hbx5.trans (hb56.mono hbx5.size)
    have hbw6 : Below w.heap.size w w6 := hbw5.trans (hb56.mono hbw5.size)
    have HSR := Lib.hid (fun W (hW : Below w6.heap.size w6 W) => rSameRefs_w (HR5.out W (hb56.trans (hW.mono hb56.size))) (hr6.after hW) (by omega))
    obtain ⟨A6, c6, b6, o6, rfl, -⟩ := hr6
    have hx6 := HALL.out w6 hbx6
    have a5 := hx6.1.cell 0
    have a6 := hx6.2.1.cell 0
    have z5 := hx6.1.lt
    have z6 := hx6.2.1.lt
    clear hb6 hx6 b5' b6' b2' b3' y5 y6 y2 y3 HC HR5
    go_wp2_with fail
    refine (HSM.out _ (by (repeat' (first | (with_reducible exact Below.refl _ _) | (with_reducible assumption) | (with_reducible refine Below.alloc ?_ ?_ _) | (with_reducible refine Below.setCell ?_ ?_ _) | (with_reducible refine below_row ?_ ?_ _) | (with_reducible refine Below.drew ?_) | (with_reducible refine below_drewN ?_ _) | (with_reducible refine Below.trans ?_ (Below.mono (by assumption) ?_)) | (first | exact Nat.le_refl _ | omega | (simp; done) | (simp; omega) | (exact Below.size (by assumption))))))).mono ?_
    rintro e7 w7 ⟨v7, rs, rfl, ho7, hm7, hb7⟩
    have hb67 : Below w6.heap.size w6 w7 := by (repeat' (first | (with_reducible exact Below.refl _ _) | (with_reducible assumption) | (with_reducible refine Below.alloc ?_ ?_ _) | (with_reducible refine Below.setCell ?_ ?_ _) | (with_reducible refine below_row ?_ ?_ _) | (with_reducible refine Below.drew ?_) | (with_reducible refine below_drewN ?_ _) | (with_reducible refine Below.trans ?_ (Below.mono (by assumption) ?_)) | (first | exact Nat.le_refl _ | omega | (simp; done) | (simp; omega) | (exact Below.size (by assumption)))))
    have hbx7 : Below wx.heap.size wx w7 := hbx6.trans (hb67.mono hbx6.size)
    have hbw7 : Below w.heap.size w w7 := hbw6.trans (hb67.mono hbw6.size)
    have hrl := map_len hm7
    have HXR := Lib.hid (fun W (hW : Below w7.heap.size w7 W) => (ho7.after hW).reg (by omega) (by rw [hm7]; exact HMSM.out))
    rw [hm7] at HXR
    have HSML := Lib.hid (fun r (hr : r ∈ rs) => HMSM.out r.1 (by rw [← hm7]; exact List.mem_map_of_mem hr))
    have HX7 := Lib.hid ho7.xat
    obtain ⟨A7, c7, g7, rfl, -, -⟩ := ho7.form
    have hx7 := HALL.out w7 hbx7
    have b2' := hx7.2.2.1.cell 0
    have b3' := hx7.2.2.2.cell 0
    have y2 := hx7.2.2.1.lt
    have y3 := hx7.2.2.2.lt
    clear hb7 hx7 a5 a6 z5 z6 HSM ho7 hm7
    go_wp2_with fail
    refine (HM.out _ (by (repeat' (first | (with_reducible exact Below.refl _ _) | (with_reducible assumption) | (with_reducible refine Below.alloc ?_ ?_ _) | (with_reducible refine Below.setCell ?_ ?_ _) | (with_reducible refine below_row ?_ ?_ _) | (with_reducible refine Below.drew ?_) | (with_reducible refine below_drewN ?_ _) | (with_reducible refine Below.trans ?_ (Below.mono (by assumption) ?_)) | (first | exact Nat.le_refl _ | omega | (simp; done) | (simp; omega) | (exact Below.size (by assumption))))))).mono ?_
    rintro e8 w8 ⟨v8, rs2, rfl, ho8, hm8, hb8⟩
    obtain ⟨nX, hnX⟩ : ∃ n, n = w7.heap.size := ⟨_, rfl⟩
    obtain ⟨wa, hwa⟩ : ∃ W, w7.alloc (.cells #[.slice A7 rs.length c7] 24) = W := ⟨_, rfl⟩
    have hb7a : Below w7.heap.size w7 wa := by rw [← hwa]; (repeat' (first | (with_reducible exact Below.refl _ _) | (with_reducible assumption) | (with_reducible refine Below.alloc ?_ ?_ _) | (with_reducible refine Below.setCell ?_ ?_ _) | (with_reducible refine below_row ?_ ?_ _) | (with_reducible refine Below.drew ?_) | (with_reducible refine below_drewN ?_ _) | (with_reducible refine Below.trans ?_ (Below.mono (by assumption) ?_)) | (first | exact Nat.le_refl _ | omega | (simp; done) | (simp; omega) | (exact Below.size (by assumption)))))
    have LXa : Hid (Lies wa nX 24 #[.slice A7 rs.length c7]) := Lib.hid (by rw [← hwa, hnX]; exact Lies.made w7 24 #[.slice A7 rs.length c7])
    rw [hwa] at hb8
    have hb78 : Below w7.heap.size w7 w8 := hb7a.trans (Below.mono (by first | exact hb8 | (have := hb8; (repeat' (first | (with_reducible exact Below.refl _ _) | (with_reducible assumption) | (with_reducible refine Below.alloc ?_ ?_ _) | (with_reducible refine Below.setCell ?_ ?_ _) | (with_reducible refine below_row ?_ ?_ _) | (with_reducible refine Below.drew ?_) | (with_reducible refine below_drewN ?_ _) | (with_reducible refine Below.trans ?_ (Below.mono (by assumption) ?_)) | (first | exact Nat.le_refl _ | omega | (simp; done) | (simp; omega) | (exact Below.size (by assumption))))))) hb7a.size)
    have LX8 := Lib.hid (LXa.out.after (by first | exact hb8 | (repeat' (first | (with_reducible exact Below.refl _ _) | (with_reducible assumption) | (with_reducible refine Below.alloc ?_ ?_ _) | (with_reducible refine Below.setCell ?_ ?_ _) | (with_reducible refine below_row ?_ ?_ _) | (with_reducible refine Below.drew ?_) | (with_reducible refine below_drewN ?_ _) | (with_reducible refine Below.trans ?_ (Below.mono (by assumption) ?_)) | (first | exact Nat.le_refl _ | omega | (simp; done) | (simp; omega) | (exact Below.size (by assumption)))))))
    have hXw : w6.heap.size ≤ nX := by rw [hnX]; exact hb67.size
    rw [← hnX]
    clear hwa hnX hb7a LXa
    have hb68 : Below w6.heap.size w6 w8 := hb67.trans (hb78.mono hb67.size)
    have hrl2 := map_len hm8
    have HYR := Lib.hid (fun W (hW : Below w8.heap.size w8 W) => (ho8.after hW).reg (by omega) (by rw [hm8]; exact HMSM.out))
    rw [hm8] at HYR
    obtain ⟨A8, c8, g8, rfl, -, -⟩ := ho8.form
    have HSS := Lib.hid (fun W (hW : Below w8.heap.size w8 W) => rSame_v (HXR.out W (hb78.trans (hW.mono hb78.size))) (HYR.out W hW))
    rw [decide_eq_true rfl] at HSS
    have LY9 := Lib.hid (Lies.made w8 24 #[.slice A8 rs2.length c8])
    have HX8 := Lib.hid (HX7.out.after hb78)
    clear hb8 b2' b3' y2 y3 HM ho8 hm8 HXR HYR HX7 HMSM
    have q1 : (CE.2 == CE.2) = true := by simp
    have q2 : (ME.2 == ME.2) = true := by simp
    generalize CE.2 = ce at *
    generalize ME.2 = me at *
    go_wp2_with fail
    refine (HSR.out _ (by (repeat' (first | (with_reducible exact Below.refl _ _) | (with_reducible assumption) | (with_reducible refine Below.alloc ?_ ?_ _) | (with_reducible refine Below.setCell ?_ ?_ _) | (with_reducible refine below_row ?_ ?_ _) | (with_reducible refine Below.drew ?_) | (with_reducible refine below_drewN ?_ _) | (with_reducible refine Below.trans ?_ (Below.mono (by assumption) ?_)) | (first | exact Nat.le_refl _ | omega | (simp; done) | (simp; omega) | (exact Below.size (by assumption))))))).mono ?_
    rintro e9 w9 ⟨rfl, hb9⟩
    have hb89 : Below w8.heap.size w8 w9 := by (repeat' (first | (with_reducible exact Below.refl _ _) | (with_reducible assumption) | (with_reducible refine Below.alloc ?_ ?_ _) | (with_reducible refine Below.setCell ?_ ?_ _) | (with_reducible refine below_row ?_ ?_ _) | (with_reducible refine Below.drew ?_) | (with_reducible refine below_drewN ?_ _) | (with_reducible refine Below.trans ?_ (Below.mono (by assumption) ?_)) | (first | exact Nat.le_refl _ | omega | (simp; done) | (simp; omega) | (exact Below.size (by assumption)))))
    have LX9 := Lib.hid (LX8.out.after hb89)
    have LY9' := Lib.hid (LY9.out.after (by first | exact hb9 | (repeat' (first | (with_reducible exact Below.refl _ _) | (with_reducible assumption) | (with_reducible refine Below.alloc ?_ ?_ _) | (with_reducible refine Below.setCell ?_ ?_ _) | (with_reducible refine below_row ?_ ?_ _) | (with_reducible refine Below.drew ?_) | (with_reducible refine below_drewN ?_ _) | (with_reducible refine Below.trans ?_ (Below.mono (by assumption) ?_)) | (first | exact Nat.le_refl _ | omega | (simp; done) | (simp; omega) | (exact Below.size (by assumption)))))))
    have HX9 := Lib.hid (HX8.out.after hb89)
    have hb69 : Below w6.heap.size w6 w9 := hb68.trans (hb89.mono hb68.size)
    have x0 := LX9.out.cell 0
    have y0 := LY9'.out.cell 0
    have zx := LX9.out.lt
    have zy := LY9'.out.lt
    clear hb9 HSR LY9 LX8 HX8
    go_wp2_with fail
    refine (HSS.out _ (by (repeat' (first | (with_reducible exact Below.refl _ _) | (with_reducible assumption) | (with_reducible refine Below.alloc ?_ ?_ _) | (with_reducible refine Below.setCell ?_ ?_ _) | (with_reducible refine below_row ?_ ?_ _) | (with_reducible refine Below.drew ?_) | (with_reducible refine below_drewN ?_ _) | (with_reducible refine Below.trans ?_ (Below.mono (by assumption) ?_)) | (first | exact Nat.le_refl _ | omega | (simp; done) | (simp; omega) | (exact Below.size (by assumption))))))).mono ?_
    rintro e10 w10 ⟨rfl, hb10⟩
    have hb910 : Below w9.heap.size w9 w10 := by (repeat' (first | (with_reducible exact Below.refl _ _) | (with_reducible assumption) | (with_reducible refine Below.alloc ?_ ?_ _) | (with_reducible refine Below.setCell ?_ ?_ _) | (with_reducible refine below_row ?_ ?_ _) | (with_reducible refine Below.drew ?_) | (with_reducible refine below_drewN ?_ _) | (with_reducible refine Below.trans ?_ (Below.mono (by assumption) ?_)) | (first | exact Nat.le_refl _ | omega | (simp; done) | (simp; omega) | (exact Below.size (by assumption)))))
    have LX := Lib.hid (LX9.out.after hb910)
    have HX := Lib.hid (HX9.out.after hb910)
    have hb610 : Below w6.heap.size w6 w10 := hb69.trans (hb910.mono hb69.size)
    have x1 := LX.out.cell 0
    have zx1 := LX.out.lt
    clear hb10 HSS x0 y0 zx zy LX9 HX9 LY9' hb910 hb89 hb78 hb69 hb68
    go_wp2_with fail
    go_loopw [74] (fun s74 wr => ∃ (i : Nat), i ≤ rs.length ∧ s74 = .int .i64 i ∧ Hid (XAt wr w6.heap.size (.slice A7 rs.length c7) rs) ∧ Hid (Lies wr nX 24 #[.slice A7 rs.length c7]) ∧ Below w6.heap.size w6 wr) (fun s74 _ => rs.length - (intOf s74).toNat)
    case atStart => exact ⟨0, by omega, rfl, HX, LX, hb610⟩
    case round =>
      obtain ⟨i, hi, rfl, HXi, LXi, hbi⟩ := hrel
      have u0 := LXi.out.cell 0
      have zu := LXi.out.lt
      clear x1 zx1 LX HX
      by_cases hlt : i < rs.length
      · have kl : (i : Int) < (rs.length : Int) := by omega
        have hsm := HSML.out rs[i] (List.getElem_mem hlt)
        obtain ⟨g, A1, c1, g1, A2, c2, g2, rfl, hgz, h3, h4, -, -⟩ := HXi.out.at_ hlt
        obtain ⟨wo, rfl⟩ : ∃ wo : World, wo = wr := ⟨_, rfl⟩
        go_wp2_with fail
        go_loopw [84] (fun s84 wr => ∃ (k : Nat), k ≤ rs[i].1.items.length ∧ s84 = .int .i64 k ∧ Hid (XAt wr w6.heap.size (.slice (some ⟨g, 0, none⟩) rs.length c7) rs) ∧ Hid (Lies wr nX 24 #[.slice (some ⟨g, 0, none⟩) rs.length c7]) ∧ Below w6.heap.size w6 wr) (fun s84 _ => rs[i].1.items.length - (intOf s84).toNat)
        case atStart => exact ⟨0, by omega, rfl, HXi, LXi, hbi⟩
        case round =>
          obtain ⟨k, hk, rfl, HXk, LXk, hbk⟩ := hrel
          have v0 := LXk.out.cell 0
          have zv := LXk.out.lt
          clear u0 zu h3 h4 hgz
          obtain ⟨gg, B1, d1, j1, B2, d2, j2, hgg, hgz, h3, h4, hR1, hR2⟩ := HXk.out.at_ hlt
          obtain rfl : g = gg := by injection hgg with h; injection h
          clear hgg
          by_cases hkl : k < rs[i].1.items.length
          · obtain ⟨hgB, hAe, cur, hcl, hcs⟩ := hR1 (by omega)
            have hjs : k * 2 + 1 < cur.size := by omega
            have cc := hcl.cell (k * 2 + 1)
            rw [Array.getElem?_eq_getElem hjs] at cc
            have ff := hcl.free (k * 2 + 1)
            have kk : (k : Int) < (rs[i].1.items.length : Int) := by omega
            obtain rfl := hAe
            generalize cur[k * 2 + 1] = cv at *
            clear hR1 hR2
            go_wp2_with fail
            go_roundw
            case rel => exact ⟨k + 1, by omega, by go_num, Lib.hid (HXk.out.set hcl (by decide) _ _), Lib.hid (LXk.out.beside hcl (by decide) _ _), hbk.setCell (p := ⟨j1, k * 2 + 1, none⟩) hgB _⟩
            case measure => simp [intOf]; omega
          · obtain rfl : k = rs[i].1.items.length := by omega
            clear hR1 hR2
            obtain ⟨wo2, rfl⟩ : ∃ wo2 : World, wo2 = wr := ⟨_, rfl⟩
            go_wp2_with fail
            go_loopw [104] (fun s104 wr => ∃ (k : Nat), k ≤ rs[i].1.dims.length ∧ s104 = .int .i64 k ∧ Hid (XAt wr w6.heap.size (.slice (some ⟨g, 0, none⟩) rs.length c7) rs) ∧ Hid (Lies wr nX 24 #[.slice (some ⟨g, 0, none⟩) rs.length c7]) ∧ Below w6.heap.size w6 wr) (fun s104 _ => rs[i].1.dims.length - (intOf s104).toNat)
            case atStart => exact ⟨0, by omega, rfl, HXk, LXk, hbk⟩
            case round =>
              obtain ⟨k, hk, rfl, HXm, LXm, hbm⟩ := hrel
              have t0 := LXm.out.cell 0
              have zt := LXm.out.lt
              clear v0 zv h3 h4 hgz
              obtain ⟨gg, E1, f1, k1, E2, e2c, f2, hgg, hgz, h3, h4, hR1, hR2⟩ := HXm.out.at_ hlt
              obtain rfl : g = gg := by injection hgg with h; injection h
              clear hgg
              by_cases hkl : k < rs[i].1.dims.length
              · obtain ⟨hgB, hAe, cur, hcl, hcs⟩ := hR2 (by omega)
                have hjs : k * 3 + 1 < cur.size := by omega
                have cc := hcl.cell (k * 3 + 1)
                rw [Array.getElem?_eq_getElem hjs] at cc
                have ff := hcl.free (k * 3 + 1)
                have kk : (k : Int) < (rs[i].1.dims.length : Int) := by omega
                obtain rfl := hAe
                generalize cur[k * 3 + 1] = cv at *
                clear hR1 hR2
                go_wp2_with fail
                go_roundw
                case rel => exact ⟨k + 1, by omega, by go_num, Lib.hid (HXm.out.set hcl (by decide) _ _), Lib.hid (LXm.out.beside hcl (by decide) _ _), hbm.setCell (p := ⟨f2, k * 3 + 1, none⟩) hgB _⟩
                case measure => simp [intOf]; omega
              · obtain rfl : k = rs[i].1.dims.length := by omega
                clear hR1 hR2
                go_wp2_with fail
                go_roundw
                case rel => exact ⟨i + 1, by omega, by go_num, HXm, LXm, hbm⟩
                case measure => simp [intOf]; omega
      · obtain rfl : i = rs.length := by omega
        have kl0 : ¬ (rs.length : Int) < (rs.length : Int) := by omega
        have hbxi : Below wx.heap.size wx wr := hbx6.trans (hbi.mono hbx6.size)
        have hxi := HALL.out wr hbxi
        have a5 := hxi.1.cell 0
        have a2 := hxi.2.2.1.cell 0
        have z5 := hxi.1.lt
        have z2 := hxi.2.2.1.lt
        have HE := Lib.hid (HEND.out wr hbxi).1
        clear hxi u0 zu
        go_wp2_with fail
        refine HE.out.mono ?_
        rintro e20 w20 ⟨rfl, hb20⟩
        have hbx20 : Below wx.heap.size wx w20 := hbxi.trans (hb20.mono hbxi.size)
        have hxj := HALL.out w20 hbx20
        have b6' := hxj.2.1.cell 0
        have b3' := hxj.2.2.2.cell 0
        have y6 := hxj.2.1.lt
        have y3 := hxj.2.2.2.lt
        have HE2 := Lib.hid (HEND.out w20 hbx20).2
        clear hxj a5 a2 z5 z2 HE
        go_wp2_with fail
        refine HE2.out.mono ?_
        rintro e21 w21 ⟨rfl, hb21⟩
        have hbw21 : Below w.heap.size w w21 := hbwx.trans ((hbx20.trans (hb21.mono hbx20.size)).mono hsx)
        go_wp2_with fail
        go_ret
        exact ⟨rfl, hbw21⟩
end Go.Proofs.Ytdhandkddbgadaa
