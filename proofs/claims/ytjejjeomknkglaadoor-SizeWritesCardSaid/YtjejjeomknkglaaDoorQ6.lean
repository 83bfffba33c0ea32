/- The reference: Read. -/
import Derived.Test.YtjejjeomknkglaaDoorQ4
import Derived.Test.YtjejjeomknkglaaDoorQ5
import Derived.Test.YtjejjeomknkglaaDoorU3
namespace Go.Proofs.YtjejjeomknkglaaDoor
set_option linter.unusedVariables false
set_option linter.unusedSimpArgs false
open Go.RowKit Go.Sort

theorem results_ctt1 {P : Program} {fn : Func} {p q r : Tmp} {ty : TypeId} (h : fn.results = #[.cell p ty, .tmp q, .tmp r]) (tmps : Array Value) (w : World) (g : Nat) (t : TypeId) (cs : Array Value) (d : TypeDesc)
    (hp : tmps.getD p undef = .pointer (some ⟨g, 0, none⟩)) (hg : Lies w g t cs)
    (hu : P.underlying ty = some d) (hd : (match d with | .struct _ | .array _ _ => true | _ => false) = true) (hi : (P.info? ty).map (·.size) = some cs.size) :
    (results fn tmps).run P w = .ok (.tuple #[.agg cs, tmps.getD q undef, tmps.getD r undef]) w := by
  have hp' : tmps[p]?.getD undef = .pointer (some ⟨g, 0, none⟩) := by simpa using hp
  simp [results, h, hp', asAddr, run_loadVar_row w g t ty cs (0, 0) d hg hu hd hi]
theorem words_short {l : List UInt8} : ∀ {cur : List UInt8}, ∀ x ∈ wordsL cur l, x.length ≤ cur.length + l.length := by
  induction l with
  | nil => intro cur x hx; simp [wordsL] at hx; subst hx; simp
  | cons c l ih =>
    intro cur x hx
    rw [wordsL] at hx
    split at hx
    · rcases List.mem_cons.1 hx with rfl | hx
      · simp
      · have := ih x hx; simp at this ⊢; omega
    · have := ih x hx; simp at this ⊢; omega
set_option maxHeartbeats 2000000 in
set_option maxRecDepth 100000 in
theorem rRead_long (s : ByteArray) (w : World) (h : 80 < s.size) : Calls Tryd.prog 10 #[.string s] w (DidRead none w) := by
  have h' : (80 : Int) < (s.size : Int) := by omega
  go_enter Tryd.func10, Tryd.ntmps10
  go_wp2_with fail
  refine bodyPost_ret (results_ctt1 Tryd.results10 _ _ w.heap.size _ _ _ rfl (Lies.made _ _ _) Tryd.underlying23 rfl (by kernel_rfl)) rfl ⟨rfl, ?_⟩
  (repeat' (first | (with_reducible exact Below.refl _ _) | (with_reducible assumption) | (with_reducible refine Below.alloc ?_ ?_ _) | (with_reducible refine Below.setCell ?_ ?_ _) | (with_reducible refine below_row ?_ ?_ _) | (with_reducible refine Below.drew ?_) | (with_reducible refine below_drewN ?_ _) | (with_reducible refine Below.trans ?_ (Below.mono (by assumption) ?_)) | (first | exact Nat.le_refl _ | omega | (simp; done) | (simp; omega))))
set_option maxHeartbeats 2000000 in
set_option maxRecDepth 100000 in
theorem rRead_words (s : ByteArray) (w : World) (h : s.size ≤ 80) (h4 : ¬ (wordsL [] s.data.toList).length = 4) : Calls Tryd.prog 10 #[.string s] w (DidRead none w) := by
  have h' : (s.size : Int) ≤ 80 := by omega
  have HW := Lib.hid (fun W => rwords_any s W h)
  go_enter Tryd.func10, Tryd.ntmps10
  go_wp2_with fail
  refine (HW.out _).mono ?_
  rintro e w1 ⟨g, cap, rfl, hown, hb1⟩
  have s1 := hb1.size; try simp only [World.size_alloc, World.size_setCell, World.size_drew, setRow_size] at s1
  have LG := Lib.hid ((Lies.new (u := w) (t := 23) (cs := #[.int .i64 0, .int .i64 0, .int .i64 0]) rfl).after hb1)
  have zG := LG.out.lt
  obtain ⟨r0, r1, r2, f0, f1, f2⟩ := LG.out.c3
  generalize (wordsL [] s.data.toList) = L at *
  have e4 : ((L.length : Int) == 4) = false := by rw [beq_eq_false_iff_ne]; omega
  have e4' : ¬ (L.length : Int) = 4 := by omega
  clear hown HW
  go_wp2_with fail
  refine bodyPost_ret (results_ctt1 Tryd.results10 _ _ w.heap.size _ _ _ rfl (((LG.out.store 0 _).store 1 _).store 2 _) Tryd.underlying23 rfl (by kernel_rfl)) rfl ⟨rfl, ?_⟩
  (repeat' (first | (with_reducible exact Below.refl _ _) | (with_reducible assumption) | (with_reducible refine Below.alloc ?_ ?_ _) | (with_reducible refine Below.setCell ?_ ?_ _) | (with_reducible refine below_row ?_ ?_ _) | (with_reducible refine Below.drew ?_) | (with_reducible refine below_drewN ?_ _) | (with_reducible refine Below.trans ?_ (Below.mono (by assumption) ?_)) | (first | exact Nat.le_refl _ | omega | (simp; done) | (simp; omega))))

/-- The first three words in their cells. -/
def W3 (w : World) (g : Nat) (A B C : ByteArray) : Prop := w.cell? ⟨g, 0, none⟩ = some (.string A) ∧ w.cell? ⟨g, 1, none⟩ = some (.string B) ∧ w.cell? ⟨g, 2, none⟩ = some (.string C)
theorem W3.after {w w' : World} {g : Nat} {A B C : ByteArray} (h : W3 w g A B C) (hg : g < w.heap.size) (hb : Below w.heap.size w w') : W3 w' g A B C :=
  ⟨(hb.cell (p := ⟨g, 0, none⟩) hg).trans h.1, (hb.cell (p := ⟨g, 1, none⟩) hg).trans h.2.1, (hb.cell (p := ⟨g, 2, none⟩) hg).trans h.2.2⟩
theorem mid6 (w3 : World) (cs : Array Value) : ∃ W, (w3.alloc (.cells cs 23)).drew = W ∧ Below w3.heap.size w3 W ∧ Lies W w3.heap.size 23 cs :=
  ⟨_, rfl, Below.drew ((Below.refl _ _).alloc (Nat.le_refl _) _), (Lies.made _ _ _).drew⟩
theorem toList_ne {a b : ByteArray} (h : ¬ a = b) : (a.toList == b.toList) = false := by
  rw [beq_eq_false_iff_ne]
  intro e
  rw [ByteArray.toList_eq, ByteArray.toList_eq] at e
  apply h
  apply ByteArray.ext
  exact Array.ext' e
/-- What several ways of a region come to, shown once. -/
theorem keyed {T G : Prop} (h : T) (k : Hid T → G) : G := k (Lib.hid h)
/-- The contracts of a round. -/
structure Round (P : Program) (V : ByteArray → Int) (A B C : ByteArray) (un st : Int) (o : Bool) (T : ByteArray) : Prop where
  step : ∀ W, Calls P 19 #[.int .u8 un] W fun e w' => e = .returned (.int .i64 st) ∧ Below W.heap.size W w'
  dim : ∀ W, Calls P 17 #[.agg #[.int .i64 (V A * st), .int .i64 ((V A + V B) * st), .int .i64 ((V A + V C) * st)]] W fun e w' => e = .returned (.bool o) ∧ Below W.heap.size W w'
  text : o = true → ∀ W, Calls P 22 #[.agg #[.int .i64 (V A * st), .int .i64 ((V A + V B) * st), .int .i64 ((V A + V C) * st)], .int .u8 un] W fun e w' => e = .returned (.string T) ∧ Below W.heap.size W w'
set_option maxHeartbeats 4000000 in
set_option maxRecDepth 100000 in
theorem rRead_hit1 (s A B C T1 T2 : ByteArray) (V : ByteArray → Int) (w : World) (h : s.size ≤ 80)
    (HW : Hid (∀ W, Calls Tryd.prog 25 #[.string s] W fun e w' => ∃ g cap, e = .returned (.slice (some ⟨g, 0, none⟩) 4 cap) ∧ W.heap.size ≤ g ∧ g < w'.heap.size ∧ W3 w' g A B C ∧ Below W.heap.size W w'))
    (HV : Hid (∀ X W, (X = A ∨ X = B ∨ X = C) → Calls Tryd.prog 26 #[.string X] W fun e w' => e = .returned (.int .i64 (V X)) ∧ w' = W))
    (hV : ∀ X, -10000000000 < V X ∧ V X < 10000000000) (H1 : Round Tryd.prog V A B C 1 100 true T1) (hT1 : T1 = s) :
    Calls Tryd.prog 10 #[.string s] w (DidRead (some ((V A * 100, (V A + V B) * 100, (V A + V C) * 100), 1)) w) := by
  have h' : (s.size : Int) ≤ 80 := by omega
  have va := hV A
  have vb := hV B
  have vc := hV C
  have k2 : IntKind.i64.wrap (V A + V B) = V A + V B := IntWalk.i64_in _ (by omega)
  have k3 : IntKind.i64.wrap (V A + V C) = V A + V C := IntWalk.i64_in _ (by omega)
  have HS1 := Lib.hid H1.step
  have HD1 := Lib.hid H1.dim
  have HT1 := Lib.hid (H1.text rfl)
  have k1_1 : IntKind.i64.wrap (V A * 100) = V A * 100 := IntWalk.i64_in _ (by omega)
  have k4_1 : IntKind.i64.wrap ((V A + V B) * 100) = (V A + V B) * 100 := IntWalk.i64_in _ (by omega)
  have k5_1 : IntKind.i64.wrap ((V A + V C) * 100) = (V A + V C) * 100 := IntWalk.i64_in _ (by omega)
  clear hV H1
  subst hT1
  go_enter Tryd.func10, Tryd.ntmps10
  go_wp2_with fail
  refine (HW.out _).mono ?_
  rintro e w1 ⟨g, cap, rfl, hg0, hg, hW, hb1⟩
  have s1 := hb1.size; try simp only [World.size_alloc, World.size_setCell, World.size_drew, setRow_size] at s1
  have LG := Lib.hid ((Lies.new (u := w) (t := 23) (cs := #[.int .i64 0, .int .i64 0, .int .i64 0]) rfl).after hb1)
  have hbw : Below w.heap.size w w1 := Below.trans (by (repeat' (first | (with_reducible exact Below.refl _ _) | (with_reducible assumption) | (with_reducible refine Below.alloc ?_ ?_ _) | (with_reducible refine Below.setCell ?_ ?_ _) | (with_reducible refine below_row ?_ ?_ _) | (with_reducible refine Below.drew ?_) | (with_reducible refine below_drewN ?_ _) | (with_reducible refine Below.trans ?_ (Below.mono (by assumption) ?_)) | (first | exact Nat.le_refl _ | omega | (simp; done) | (simp; omega))))) (hb1.mono (by simp))
  simp only [World.size_alloc] at hg0
  clear hb1
  have HH := Lib.hid hW
  clear hW
  go_wp2_with fail
  refine wp_loop_rounds 3 ?_
  rw [rounds_succ]
  go_wp2_with fail
  refine (HS1.out _).mono ?_
  rintro e w1a ⟨rfl, hb⟩
  have zw1a : w1.heap.size ≤ w1a.heap.size := hb.size
  replace LG := Lib.hid (LG.out.after hb)
  replace HH := Lib.hid (HH.out.after hg hb)
  replace hbw : Below w.heap.size w w1a := hbw.trans (hb.mono (by omega))
  replace hg : g < w1a.heap.size := by omega
  obtain ⟨c0, c1, c2⟩ := HH.out
  clear hb
  go_wp2_with fail
  refine (HV.out _ _ (.inl rfl)).mono ?_
  rintro e w1b ⟨rfl, hE⟩
  subst hE
  go_wp2_with fail
  apply keyed
  case k =>
    intro KEY
    go_region_held3 (fun W => W.cell? ⟨g, 1, none⟩ = some (.string B) ∧ W.cell? ⟨g, 2, none⟩ = some (.string C)) (go_keep)
      (first | (go_at_call 26; refine (HV.out _ _ (by first | exact .inr (.inl rfl) | exact .inr (.inr rfl))).mono ?_; rintro e w' ⟨rfl, hE⟩; subst hE))
    all_goals exact KEY.out
  clear c0 c1 c2
  obtain ⟨w1c, hw, hb, LD⟩ := mid6 w1b #[.int .i64 (V A * 100), .int .i64 ((V A + V B) * 100), .int .i64 ((V A + V C) * 100)]
  rw [hw]
  clear hw
  replace LG := Lib.hid (LG.out.after hb)
  replace HH := Lib.hid (HH.out.after hg hb)
  replace hbw : Below w.heap.size w w1c := hbw.trans (hb.mono (by omega))
  have zw1c : w1b.heap.size ≤ w1c.heap.size := hb.size
  replace hg : g < w1c.heap.size := by omega
  clear hb
  replace LD := Lib.hid LD
  obtain ⟨d0, d1, d2, -, -, -⟩ := LD.out.c3
  go_wp2_with fail
  refine (HD1.out _).mono ?_
  rintro e w1d ⟨rfl, hb⟩
  replace LG := Lib.hid (LG.out.after hb)
  replace LD := Lib.hid (LD.out.after hb)
  replace HH := Lib.hid (HH.out.after hg hb)
  replace hbw : Below w.heap.size w w1d := hbw.trans (hb.mono (by omega))
  have zw1d : w1c.heap.size ≤ w1d.heap.size := hb.size
  replace hg : g < w1d.heap.size := by omega
  clear hb d0 d1 d2
  obtain ⟨d0, d1, d2, -, -, -⟩ := LD.out.c3
  go_wp2_with fail
  refine (HT1.out _).mono ?_
  rintro e w1e ⟨rfl, hb⟩
  replace LG := Lib.hid (LG.out.after hb)
  replace LD := Lib.hid (LD.out.after hb)
  replace HH := Lib.hid (HH.out.after hg hb)
  replace hbw : Below w.heap.size w w1e := hbw.trans (hb.mono (by omega))
  have zw1e : w1d.heap.size ≤ w1e.heap.size := hb.size
  replace hg : g < w1e.heap.size := by omega
  clear hb d0 d1 d2
  obtain ⟨d0, d1, d2, -, -, -⟩ := LD.out.c3
  obtain ⟨r0, r1, r2, f0, f1, f2⟩ := LG.out.c3
  have zG := LG.out.lt
  go_wp2_with fail
  refine bodyPost_ret (results_ctt1 Tryd.results10 _ _ w.heap.size _ _ _ rfl (((LG.out.store 0 _).store 1 _).store 2 _) Tryd.underlying23 rfl (by kernel_rfl)) rfl ⟨rfl, ?_⟩
  (repeat' (first | (with_reducible exact Below.refl _ _) | (with_reducible assumption) | (with_reducible refine Below.alloc ?_ ?_ _) | (with_reducible refine Below.setCell ?_ ?_ _) | (with_reducible refine below_row ?_ ?_ _) | (with_reducible refine Below.drew ?_) | (with_reducible refine below_drewN ?_ _) | (with_reducible refine Below.trans ?_ (Below.mono (by assumption) ?_)) | (first | exact Nat.le_refl _ | omega | (simp; done) | (simp; omega))))
set_option maxHeartbeats 4000000 in
set_option maxRecDepth 100000 in
theorem rRead_FF (s A B C T1 T2 : ByteArray) (V : ByteArray → Int) (w : World) (h : s.size ≤ 80)
    (HW : Hid (∀ W, Calls Tryd.prog 25 #[.string s] W fun e w' => ∃ g cap, e = .returned (.slice (some ⟨g, 0, none⟩) 4 cap) ∧ W.heap.size ≤ g ∧ g < w'.heap.size ∧ W3 w' g A B C ∧ Below W.heap.size W w'))
    (HV : Hid (∀ X W, (X = A ∨ X = B ∨ X = C) → Calls Tryd.prog 26 #[.string X] W fun e w' => e = .returned (.int .i64 (V X)) ∧ w' = W))
    (hV : ∀ X, -10000000000 < V X ∧ V X < 10000000000) (H1 : Round Tryd.prog V A B C 1 100 false T1) (H2 : Round Tryd.prog V A B C 2 254 false T2) :
    Calls Tryd.prog 10 #[.string s] w (DidRead (none) w) := by
  have h' : (s.size : Int) ≤ 80 := by omega
  have va := hV A
  have vb := hV B
  have vc := hV C
  have k2 : IntKind.i64.wrap (V A + V B) = V A + V B := IntWalk.i64_in _ (by omega)
  have k3 : IntKind.i64.wrap (V A + V C) = V A + V C := IntWalk.i64_in _ (by omega)
  have HS1 := Lib.hid H1.step
  have HD1 := Lib.hid H1.dim
  have k1_1 : IntKind.i64.wrap (V A * 100) = V A * 100 := IntWalk.i64_in _ (by omega)
  have k4_1 : IntKind.i64.wrap ((V A + V B) * 100) = (V A + V B) * 100 := IntWalk.i64_in _ (by omega)
  have k5_1 : IntKind.i64.wrap ((V A + V C) * 100) = (V A + V C) * 100 := IntWalk.i64_in _ (by omega)
  have HS2 := Lib.hid H2.step
  have HD2 := Lib.hid H2.dim
  have k1_2 : IntKind.i64.wrap (V A * 254) = V A * 254 := IntWalk.i64_in _ (by omega)
  have k4_2 : IntKind.i64.wrap ((V A + V B) * 254) = (V A + V B) * 254 := IntWalk.i64_in _ (by omega)
  have k5_2 : IntKind.i64.wrap ((V A + V C) * 254) = (V A + V C) * 254 := IntWalk.i64_in _ (by omega)
  clear hV H1 H2
  go_enter Tryd.func10, Tryd.ntmps10
  go_wp2_with fail
  refine (HW.out _).mono ?_
  rintro e w1 ⟨g, cap, rfl, hg0, hg, hW, hb1⟩
  have s1 := hb1.size; try simp only [World.size_alloc, World.size_setCell, World.size_drew, setRow_size] at s1
  have LG := Lib.hid ((Lies.new (u := w) (t := 23) (cs := #[.int .i64 0, .int .i64 0, .int .i64 0]) rfl).after hb1)
  have hbw : Below w.heap.size w w1 := Below.trans (by (repeat' (first | (with_reducible exact Below.refl _ _) | (with_reducible assumption) | (with_reducible refine Below.alloc ?_ ?_ _) | (with_reducible refine Below.setCell ?_ ?_ _) | (with_reducible refine below_row ?_ ?_ _) | (with_reducible refine Below.drew ?_) | (with_reducible refine below_drewN ?_ _) | (with_reducible refine Below.trans ?_ (Below.mono (by assumption) ?_)) | (first | exact Nat.le_refl _ | omega | (simp; done) | (simp; omega))))) (hb1.mono (by simp))
  simp only [World.size_alloc] at hg0
  clear hb1
  have HH := Lib.hid hW
  clear hW
  go_wp2_with fail
  refine wp_loop_rounds 3 ?_
  rw [rounds_succ]
  go_wp2_with fail
  refine (HS1.out _).mono ?_
  rintro e w1a ⟨rfl, hb⟩
  have zw1a : w1.heap.size ≤ w1a.heap.size := hb.size
  replace LG := Lib.hid (LG.out.after hb)
  replace HH := Lib.hid (HH.out.after hg hb)
  replace hbw : Below w.heap.size w w1a := hbw.trans (hb.mono (by omega))
  replace hg : g < w1a.heap.size := by omega
  obtain ⟨c0, c1, c2⟩ := HH.out
  clear hb
  go_wp2_with fail
  refine (HV.out _ _ (.inl rfl)).mono ?_
  rintro e w1b ⟨rfl, hE⟩
  subst hE
  go_wp2_with fail
  apply keyed
  case k =>
    intro KEY
    go_region_held3 (fun W => W.cell? ⟨g, 1, none⟩ = some (.string B) ∧ W.cell? ⟨g, 2, none⟩ = some (.string C)) (go_keep)
      (first | (go_at_call 26; refine (HV.out _ _ (by first | exact .inr (.inl rfl) | exact .inr (.inr rfl))).mono ?_; rintro e w' ⟨rfl, hE⟩; subst hE))
    all_goals exact KEY.out
  clear c0 c1 c2
  obtain ⟨w1c, hw, hb, LD⟩ := mid6 w1b #[.int .i64 (V A * 100), .int .i64 ((V A + V B) * 100), .int .i64 ((V A + V C) * 100)]
  rw [hw]
  clear hw
  replace LG := Lib.hid (LG.out.after hb)
  replace HH := Lib.hid (HH.out.after hg hb)
  replace hbw : Below w.heap.size w w1c := hbw.trans (hb.mono (by omega))
  have zw1c : w1b.heap.size ≤ w1c.heap.size := hb.size
  replace hg : g < w1c.heap.size := by omega
  clear hb
  replace LD := Lib.hid LD
  obtain ⟨d0, d1, d2, -, -, -⟩ := LD.out.c3
  go_wp2_with fail
  refine (HD1.out _).mono ?_
  rintro e w1d ⟨rfl, hb⟩
  replace LG := Lib.hid (LG.out.after hb)
  replace LD := Lib.hid (LD.out.after hb)
  replace HH := Lib.hid (HH.out.after hg hb)
  replace hbw : Below w.heap.size w w1d := hbw.trans (hb.mono (by omega))
  have zw1d : w1c.heap.size ≤ w1d.heap.size := hb.size
  replace hg : g < w1d.heap.size := by omega
  clear hb d0 d1 d2
  obtain ⟨d0, d1, d2, -, -, -⟩ := LD.out.c3
  go_wp2_with fail
  clear LD d0 d1 d2
  rw [rounds_succ]
  go_wp2_with fail
  refine (HS2.out _).mono ?_
  rintro e w2a ⟨rfl, hb⟩
  have zw2a : w1d.heap.size ≤ w2a.heap.size := hb.size
  replace LG := Lib.hid (LG.out.after hb)
  replace HH := Lib.hid (HH.out.after hg hb)
  replace hbw : Below w.heap.size w w2a := hbw.trans (hb.mono (by omega))
  replace hg : g < w2a.heap.size := by omega
  obtain ⟨c0, c1, c2⟩ := HH.out
  clear hb
  go_wp2_with fail
  refine (HV.out _ _ (.inl rfl)).mono ?_
  rintro e w2b ⟨rfl, hE⟩
  subst hE
  go_wp2_with fail
  apply keyed
  case k =>
    intro KEY
    go_region_held3 (fun W => W.cell? ⟨g, 1, none⟩ = some (.string B) ∧ W.cell? ⟨g, 2, none⟩ = some (.string C)) (go_keep)
      (first | (go_at_call 26; refine (HV.out _ _ (by first | exact .inr (.inl rfl) | exact .inr (.inr rfl))).mono ?_; rintro e w' ⟨rfl, hE⟩; subst hE))
    all_goals exact KEY.out
  clear c0 c1 c2
  obtain ⟨w2c, hw, hb, LD⟩ := mid6 w2b #[.int .i64 (V A * 254), .int .i64 ((V A + V B) * 254), .int .i64 ((V A + V C) * 254)]
  rw [hw]
  clear hw
  replace LG := Lib.hid (LG.out.after hb)
  replace HH := Lib.hid (HH.out.after hg hb)
  replace hbw : Below w.heap.size w w2c := hbw.trans (hb.mono (by omega))
  have zw2c : w2b.heap.size ≤ w2c.heap.size := hb.size
  replace hg : g < w2c.heap.size := by omega
  clear hb
  replace LD := Lib.hid LD
  obtain ⟨d0, d1, d2, -, -, -⟩ := LD.out.c3
  go_wp2_with fail
  refine (HD2.out _).mono ?_
  rintro e w2d ⟨rfl, hb⟩
  replace LG := Lib.hid (LG.out.after hb)
  replace LD := Lib.hid (LD.out.after hb)
  replace HH := Lib.hid (HH.out.after hg hb)
  replace hbw : Below w.heap.size w w2d := hbw.trans (hb.mono (by omega))
  have zw2d : w2c.heap.size ≤ w2d.heap.size := hb.size
  replace hg : g < w2d.heap.size := by omega
  clear hb d0 d1 d2
  obtain ⟨d0, d1, d2, -, -, -⟩ := LD.out.c3
  go_wp2_with fail
  clear LD d0 d1 d2
  obtain ⟨r0, r1, r2, f0, f1, f2⟩ := LG.out.c3
  have zG := LG.out.lt
  rw [rounds_succ]
  go_wp2_with fail
  refine bodyPost_ret (results_ctt1 Tryd.results10 _ _ w.heap.size _ _ _ rfl (((LG.out.store 0 _).store 1 _).store 2 _) Tryd.underlying23 rfl (by kernel_rfl)) rfl ⟨rfl, ?_⟩
  (repeat' (first | (with_reducible exact Below.refl _ _) | (with_reducible assumption) | (with_reducible refine Below.alloc ?_ ?_ _) | (with_reducible refine Below.setCell ?_ ?_ _) | (with_reducible refine below_row ?_ ?_ _) | (with_reducible refine Below.drew ?_) | (with_reducible refine below_drewN ?_ _) | (with_reducible refine Below.trans ?_ (Below.mono (by assumption) ?_)) | (first | exact Nat.le_refl _ | omega | (simp; done) | (simp; omega))))
set_option maxHeartbeats 4000000 in
set_option maxRecDepth 100000 in
theorem rRead_FN (s A B C T1 T2 : ByteArray) (V : ByteArray → Int) (w : World) (h : s.size ≤ 80)
    (HW : Hid (∀ W, Calls Tryd.prog 25 #[.string s] W fun e w' => ∃ g cap, e = .returned (.slice (some ⟨g, 0, none⟩) 4 cap) ∧ W.heap.size ≤ g ∧ g < w'.heap.size ∧ W3 w' g A B C ∧ Below W.heap.size W w'))
    (HV : Hid (∀ X W, (X = A ∨ X = B ∨ X = C) → Calls Tryd.prog 26 #[.string X] W fun e w' => e = .returned (.int .i64 (V X)) ∧ w' = W))
    (hV : ∀ X, -10000000000 < V X ∧ V X < 10000000000) (H1 : Round Tryd.prog V A B C 1 100 false T1) (H2 : Round Tryd.prog V A B C 2 254 true T2) (hT2 : ¬ T2 = s) :
    Calls Tryd.prog 10 #[.string s] w (DidRead (none) w) := by
  have h' : (s.size : Int) ≤ 80 := by omega
  have va := hV A
  have vb := hV B
  have vc := hV C
  have k2 : IntKind.i64.wrap (V A + V B) = V A + V B := IntWalk.i64_in _ (by omega)
  have k3 : IntKind.i64.wrap (V A + V C) = V A + V C := IntWalk.i64_in _ (by omega)
  have HS1 := Lib.hid H1.step
  have HD1 := Lib.hid H1.dim
  have k1_1 : IntKind.i64.wrap (V A * 100) = V A * 100 := IntWalk.i64_in _ (by omega)
  have k4_1 : IntKind.i64.wrap ((V A + V B) * 100) = (V A + V B) * 100 := IntWalk.i64_in _ (by omega)
  have k5_1 : IntKind.i64.wrap ((V A + V C) * 100) = (V A + V C) * 100 := IntWalk.i64_in _ (by omega)
  have HS2 := Lib.hid H2.step
  have HD2 := Lib.hid H2.dim
  have HT2 := Lib.hid (H2.text rfl)
  have q2 : (T2.toList == s.toList) = false := toList_ne hT2
  have k1_2 : IntKind.i64.wrap (V A * 254) = V A * 254 := IntWalk.i64_in _ (by omega)
  have k4_2 : IntKind.i64.wrap ((V A + V B) * 254) = (V A + V B) * 254 := IntWalk.i64_in _ (by omega)
  have k5_2 : IntKind.i64.wrap ((V A + V C) * 254) = (V A + V C) * 254 := IntWalk.i64_in _ (by omega)
  clear hV H1 H2
  go_enter Tryd.func10, Tryd.ntmps10
  go_wp2_with fail
  refine (HW.out _).mono ?_
  rintro e w1 ⟨g, cap, rfl, hg0, hg, hW, hb1⟩
  have s1 := hb1.size; try simp only [World.size_alloc, World.size_setCell, World.size_drew, setRow_size] at s1
  have LG := Lib.hid ((Lies.new (u := w) (t := 23) (cs := #[.int .i64 0, .int .i64 0, .int .i64 0]) rfl).after hb1)
  have hbw : Below w.heap.size w w1 := Below.trans (by (repeat' (first | (with_reducible exact Below.refl _ _) | (with_reducible assumption) | (with_reducible refine Below.alloc ?_ ?_ _) | (with_reducible refine Below.setCell ?_ ?_ _) | (with_reducible refine below_row ?_ ?_ _) | (with_reducible refine Below.drew ?_) | (with_reducible refine below_drewN ?_ _) | (with_reducible refine Below.trans ?_ (Below.mono (by assumption) ?_)) | (first | exact Nat.le_refl _ | omega | (simp; done) | (simp; omega))))) (hb1.mono (by simp))
  simp only [World.size_alloc] at hg0
  clear hb1
  have HH := Lib.hid hW
  clear hW
  go_wp2_with fail
  refine wp_loop_rounds 3 ?_
  rw [rounds_succ]
  go_wp2_with fail
  refine (HS1.out _).mono ?_
  rintro e w1a ⟨rfl, hb⟩
  have zw1a : w1.heap.size ≤ w1a.heap.size := hb.size
  replace LG := Lib.hid (LG.out.after hb)
  replace HH := Lib.hid (HH.out.after hg hb)
  replace hbw : Below w.heap.size w w1a := hbw.trans (hb.mono (by omega))
  replace hg : g < w1a.heap.size := by omega
  obtain ⟨c0, c1, c2⟩ := HH.out
  clear hb
  go_wp2_with fail
  refine (HV.out _ _ (.inl rfl)).mono ?_
  rintro e w1b ⟨rfl, hE⟩
  subst hE
  go_wp2_with fail
  apply keyed
  case k =>
    intro KEY
    go_region_held3 (fun W => W.cell? ⟨g, 1, none⟩ = some (.string B) ∧ W.cell? ⟨g, 2, none⟩ = some (.string C)) (go_keep)
      (first | (go_at_call 26; refine (HV.out _ _ (by first | exact .inr (.inl rfl) | exact .inr (.inr rfl))).mono ?_; rintro e w' ⟨rfl, hE⟩; subst hE))
    all_goals exact KEY.out
  clear c0 c1 c2
  obtain ⟨w1c, hw, hb, LD⟩ := mid6 w1b #[.int .i64 (V A * 100), .int .i64 ((V A + V B) * 100), .int .i64 ((V A + V C) * 100)]
  rw [hw]
  clear hw
  replace LG := Lib.hid (LG.out.after hb)
  replace HH := Lib.hid (HH.out.after hg hb)
  replace hbw : Below w.heap.size w w1c := hbw.trans (hb.mono (by omega))
  have zw1c : w1b.heap.size ≤ w1c.heap.size := hb.size
  replace hg : g < w1c.heap.size := by omega
  clear hb
  replace LD := Lib.hid LD
  obtain ⟨d0, d1, d2, -, -, -⟩ := LD.out.c3
  go_wp2_with fail
  refine (HD1.out _).mono ?_
  rintro e w1d ⟨rfl, hb⟩
  replace LG := Lib.hid (LG.out.after hb)
  replace LD := Lib.hid (LD.out.after hb)
  replace HH := Lib.hid (HH.out.after hg hb)
  replace hbw : Below w.heap.size w w1d := hbw.trans (hb.mono (by omega))
  have zw1d : w1c.heap.size ≤ w1d.heap.size := hb.size
  replace hg : g < w1d.heap.size := by omega
  clear hb d0 d1 d2
  obtain ⟨d0, d1, d2, -, -, -⟩ := LD.out.c3
  go_wp2_with fail
  clear LD d0 d1 d2
  rw [rounds_succ]
  go_wp2_with fail
  refine (HS2.out _).mono ?_
  rintro e w2a ⟨rfl, hb⟩
  have zw2a : w1d.heap.size ≤ w2a.heap.size := hb.size
  replace LG := Lib.hid (LG.out.after hb)
  replace HH := Lib.hid (HH.out.after hg hb)
  replace hbw : Below w.heap.size w w2a := hbw.trans (hb.mono (by omega))
  replace hg : g < w2a.heap.size := by omega
  obtain ⟨c0, c1, c2⟩ := HH.out
  clear hb
  go_wp2_with fail
  refine (HV.out _ _ (.inl rfl)).mono ?_
  rintro e w2b ⟨rfl, hE⟩
  subst hE
  go_wp2_with fail
  apply keyed
  case k =>
    intro KEY
    go_region_held3 (fun W => W.cell? ⟨g, 1, none⟩ = some (.string B) ∧ W.cell? ⟨g, 2, none⟩ = some (.string C)) (go_keep)
      (first | (go_at_call 26; refine (HV.out _ _ (by first | exact .inr (.inl rfl) | exact .inr (.inr rfl))).mono ?_; rintro e w' ⟨rfl, hE⟩; subst hE))
    all_goals exact KEY.out
  clear c0 c1 c2
  obtain ⟨w2c, hw, hb, LD⟩ := mid6 w2b #[.int .i64 (V A * 254), .int .i64 ((V A + V B) * 254), .int .i64 ((V A + V C) * 254)]
  rw [hw]
  clear hw
  replace LG := Lib.hid (LG.out.after hb)
  replace HH := Lib.hid (HH.out.after hg hb)
  replace hbw : Below w.heap.size w w2c := hbw.trans (hb.mono (by omega))
  have zw2c : w2b.heap.size ≤ w2c.heap.size := hb.size
  replace hg : g < w2c.heap.size := by omega
  clear hb
  replace LD := Lib.hid LD
  obtain ⟨d0, d1, d2, -, -, -⟩ := LD.out.c3
  go_wp2_with fail
  refine (HD2.out _).mono ?_
  rintro e w2d ⟨rfl, hb⟩
  replace LG := Lib.hid (LG.out.after hb)
  replace LD := Lib.hid (LD.out.after hb)
  replace HH := Lib.hid (HH.out.after hg hb)
  replace hbw : Below w.heap.size w w2d := hbw.trans (hb.mono (by omega))
  have zw2d : w2c.heap.size ≤ w2d.heap.size := hb.size
  replace hg : g < w2d.heap.size := by omega
  clear hb d0 d1 d2
  obtain ⟨d0, d1, d2, -, -, -⟩ := LD.out.c3
  go_wp2_with fail
  refine (HT2.out _).mono ?_
  rintro e w2e ⟨rfl, hb⟩
  replace LG := Lib.hid (LG.out.after hb)
  replace LD := Lib.hid (LD.out.after hb)
  replace HH := Lib.hid (HH.out.after hg hb)
  replace hbw : Below w.heap.size w w2e := hbw.trans (hb.mono (by omega))
  have zw2e : w2d.heap.size ≤ w2e.heap.size := hb.size
  replace hg : g < w2e.heap.size := by omega
  clear hb d0 d1 d2
  obtain ⟨d0, d1, d2, -, -, -⟩ := LD.out.c3
  go_wp2_with fail
  clear LD d0 d1 d2
  obtain ⟨r0, r1, r2, f0, f1, f2⟩ := LG.out.c3
  have zG := LG.out.lt
  rw [rounds_succ]
  go_wp2_with fail
  refine bodyPost_ret (results_ctt1 Tryd.results10 _ _ w.heap.size _ _ _ rfl (((LG.out.store 0 _).store 1 _).store 2 _) Tryd.underlying23 rfl (by kernel_rfl)) rfl ⟨rfl, ?_⟩
  (repeat' (first | (with_reducible exact Below.refl _ _) | (with_reducible assumption) | (with_reducible refine Below.alloc ?_ ?_ _) | (with_reducible refine Below.setCell ?_ ?_ _) | (with_reducible refine below_row ?_ ?_ _) | (with_reducible refine Below.drew ?_) | (with_reducible refine below_drewN ?_ _) | (with_reducible refine Below.trans ?_ (Below.mono (by assumption) ?_)) | (first | exact Nat.le_refl _ | omega | (simp; done) | (simp; omega))))
set_option maxHeartbeats 4000000 in
set_option maxRecDepth 100000 in
theorem rRead_FH (s A B C T1 T2 : ByteArray) (V : ByteArray → Int) (w : World) (h : s.size ≤ 80)
    (HW : Hid (∀ W, Calls Tryd.prog 25 #[.string s] W fun e w' => ∃ g cap, e = .returned (.slice (some ⟨g, 0, none⟩) 4 cap) ∧ W.heap.size ≤ g ∧ g < w'.heap.size ∧ W3 w' g A B C ∧ Below W.heap.size W w'))
    (HV : Hid (∀ X W, (X = A ∨ X = B ∨ X = C) → Calls Tryd.prog 26 #[.string X] W fun e w' => e = .returned (.int .i64 (V X)) ∧ w' = W))
    (hV : ∀ X, -10000000000 < V X ∧ V X < 10000000000) (H1 : Round Tryd.prog V A B C 1 100 false T1) (H2 : Round Tryd.prog V A B C 2 254 true T2) (hT2 : T2 = s) :
    Calls Tryd.prog 10 #[.string s] w (DidRead (some ((V A * 254, (V A + V B) * 254, (V A + V C) * 254), 2)) w) := by
  have h' : (s.size : Int) ≤ 80 := by omega
  have va := hV A
  have vb := hV B
  have vc := hV C
  have k2 : IntKind.i64.wrap (V A + V B) = V A + V B := IntWalk.i64_in _ (by omega)
  have k3 : IntKind.i64.wrap (V A + V C) = V A + V C := IntWalk.i64_in _ (by omega)
  have HS1 := Lib.hid H1.step
  have HD1 := Lib.hid H1.dim
  have k1_1 : IntKind.i64.wrap (V A * 100) = V A * 100 := IntWalk.i64_in _ (by omega)
  have k4_1 : IntKind.i64.wrap ((V A + V B) * 100) = (V A + V B) * 100 := IntWalk.i64_in _ (by omega)
  have k5_1 : IntKind.i64.wrap ((V A + V C) * 100) = (V A + V C) * 100 := IntWalk.i64_in _ (by omega)
  have HS2 := Lib.hid H2.step
  have HD2 := Lib.hid H2.dim
  have HT2 := Lib.hid (H2.text rfl)
  have k1_2 : IntKind.i64.wrap (V A * 254) = V A * 254 := IntWalk.i64_in _ (by omega)
  have k4_2 : IntKind.i64.wrap ((V A + V B) * 254) = (V A + V B) * 254 := IntWalk.i64_in _ (by omega)
  have k5_2 : IntKind.i64.wrap ((V A + V C) * 254) = (V A + V C) * 254 := IntWalk.i64_in _ (by omega)
  clear hV H1 H2
  subst hT2
  go_enter Tryd.func10, Tryd.ntmps10
  go_wp2_with fail
  refine (HW.out _).mono ?_
  rintro e w1 ⟨g, cap, rfl, hg0, hg, hW, hb1⟩
  have s1 := hb1.size; try simp only [World.size_alloc, World.size_setCell, World.size_drew, setRow_size] at s1
  have LG := Lib.hid ((Lies.new (u := w) (t := 23) (cs := #[.int .i64 0, .int .i64 0, .int .i64 0]) rfl).after hb1)
  have hbw : Below w.heap.size w w1 := Below.trans (by (repeat' (first | (with_reducible exact Below.refl _ _) | (with_reducible assumption) | (with_reducible refine Below.alloc ?_ ?_ _) | (with_reducible refine Below.setCell ?_ ?_ _) | (with_reducible refine below_row ?_ ?_ _) | (with_reducible refine Below.drew ?_) | (with_reducible refine below_drewN ?_ _) | (with_reducible refine Below.trans ?_ (Below.mono (by assumption) ?_)) | (first | exact Nat.le_refl _ | omega | (simp; done) | (simp; omega))))) (hb1.mono (by simp))
  simp only [World.size_alloc] at hg0
  clear hb1
  have HH := Lib.hid hW
  clear hW
  go_wp2_with fail
  refine wp_loop_rounds 3 ?_
  rw [rounds_succ]
  go_wp2_with fail
  refine (HS1.out _).mono ?_
  rintro e w1a ⟨rfl, hb⟩
  have zw1a : w1.heap.size ≤ w1a.heap.size := hb.size
  replace LG := Lib.hid (LG.out.after hb)
  replace HH := Lib.hid (HH.out.after hg hb)
  replace hbw : Below w.heap.size w w1a := hbw.trans (hb.mono (by omega))
  replace hg : g < w1a.heap.size := by omega
  obtain ⟨c0, c1, c2⟩ := HH.out
  clear hb
  go_wp2_with fail
  refine (HV.out _ _ (.inl rfl)).mono ?_
  rintro e w1b ⟨rfl, hE⟩
  subst hE
  go_wp2_with fail
  apply keyed
  case k =>
    intro KEY
    go_region_held3 (fun W => W.cell? ⟨g, 1, none⟩ = some (.string B) ∧ W.cell? ⟨g, 2, none⟩ = some (.string C)) (go_keep)
      (first | (go_at_call 26; refine (HV.out _ _ (by first | exact .inr (.inl rfl) | exact .inr (.inr rfl))).mono ?_; rintro e w' ⟨rfl, hE⟩; subst hE))
    all_goals exact KEY.out
  clear c0 c1 c2
  obtain ⟨w1c, hw, hb, LD⟩ := mid6 w1b #[.int .i64 (V A * 100), .int .i64 ((V A + V B) * 100), .int .i64 ((V A + V C) * 100)]
  rw [hw]
  clear hw
  replace LG := Lib.hid (LG.out.after hb)
  replace HH := Lib.hid (HH.out.after hg hb)
  replace hbw : Below w.heap.size w w1c := hbw.trans (hb.mono (by omega))
  have zw1c : w1b.heap.size ≤ w1c.heap.size := hb.size
  replace hg : g < w1c.heap.size := by omega
  clear hb
  replace LD := Lib.hid LD
  obtain ⟨d0, d1, d2, -, -, -⟩ := LD.out.c3
  go_wp2_with fail
  refine (HD1.out _).mono ?_
  rintro e w1d ⟨rfl, hb⟩
  replace LG := Lib.hid (LG.out.after hb)
  replace LD := Lib.hid (LD.out.after hb)
  replace HH := Lib.hid (HH.out.after hg hb)
  replace hbw : Below w.heap.size w w1d := hbw.trans (hb.mono (by omega))
  have zw1d : w1c.heap.size ≤ w1d.heap.size := hb.size
  replace hg : g < w1d.heap.size := by omega
  clear hb d0 d1 d2
  obtain ⟨d0, d1, d2, -, -, -⟩ := LD.out.c3
  go_wp2_with fail
  clear LD d0 d1 d2
  rw [rounds_succ]
  go_wp2_with fail
  refine (HS2.out _).mono ?_
  rintro e w2a ⟨rfl, hb⟩
  have zw2a : w1d.heap.size ≤ w2a.heap.size := hb.size
  replace LG := Lib.hid (LG.out.after hb)
  replace HH := Lib.hid (HH.out.after hg hb)
  replace hbw : Below w.heap.size w w2a := hbw.trans (hb.mono (by omega))
  replace hg : g < w2a.heap.size := by omega
  obtain ⟨c0, c1, c2⟩ := HH.out
  clear hb
  go_wp2_with fail
  refine (HV.out _ _ (.inl rfl)).mono ?_
  rintro e w2b ⟨rfl, hE⟩
  subst hE
  go_wp2_with fail
  apply keyed
  case k =>
    intro KEY
    go_region_held3 (fun W => W.cell? ⟨g, 1, none⟩ = some (.string B) ∧ W.cell? ⟨g, 2, none⟩ = some (.string C)) (go_keep)
      (first | (go_at_call 26; refine (HV.out _ _ (by first | exact .inr (.inl rfl) | exact .inr (.inr rfl))).mono ?_; rintro e w' ⟨rfl, hE⟩; subst hE))
    all_goals exact KEY.out
  clear c0 c1 c2
  obtain ⟨w2c, hw, hb, LD⟩ := mid6 w2b #[.int .i64 (V A * 254), .int .i64 ((V A + V B) * 254), .int .i64 ((V A + V C) * 254)]
  rw [hw]
  clear hw
  replace LG := Lib.hid (LG.out.after hb)
  replace HH := Lib.hid (HH.out.after hg hb)
  replace hbw : Below w.heap.size w w2c := hbw.trans (hb.mono (by omega))
  have zw2c : w2b.heap.size ≤ w2c.heap.size := hb.size
  replace hg : g < w2c.heap.size := by omega
  clear hb
  replace LD := Lib.hid LD
  obtain ⟨d0, d1, d2, -, -, -⟩ := LD.out.c3
  go_wp2_with fail
  refine (HD2.out _).mono ?_
  rintro e w2d ⟨rfl, hb⟩
  replace LG := Lib.hid (LG.out.after hb)
  replace LD := Lib.hid (LD.out.after hb)
  replace HH := Lib.hid (HH.out.after hg hb)
  replace hbw : Below w.heap.size w w2d := hbw.trans (hb.mono (by omega))
  have zw2d : w2c.heap.size ≤ w2d.heap.size := hb.size
  replace hg : g < w2d.heap.size := by omega
  clear hb d0 d1 d2
  obtain ⟨d0, d1, d2, -, -, -⟩ := LD.out.c3
  go_wp2_with fail
  refine (HT2.out _).mono ?_
  rintro e w2e ⟨rfl, hb⟩
  replace LG := Lib.hid (LG.out.after hb)
  replace LD := Lib.hid (LD.out.after hb)
  replace HH := Lib.hid (HH.out.after hg hb)
  replace hbw : Below w.heap.size w w2e := hbw.trans (hb.mono (by omega))
  have zw2e : w2d.heap.size ≤ w2e.heap.size := hb.size
  replace hg : g < w2e.heap.size := by omega
  clear hb d0 d1 d2
  obtain ⟨d0, d1, d2, -, -, -⟩ := LD.out.c3
  obtain ⟨r0, r1, r2, f0, f1, f2⟩ := LG.out.c3
  have zG := LG.out.lt
  go_wp2_with fail
  refine bodyPost_ret (results_ctt1 Tryd.results10 _ _ w.heap.size _ _ _ rfl (((LG.out.store 0 _).store 1 _).store 2 _) Tryd.underlying23 rfl (by kernel_rfl)) rfl ⟨rfl, ?_⟩
  (repeat' (first | (with_reducible exact Below.refl _ _) | (with_reducible assumption) | (with_reducible refine Below.alloc ?_ ?_ _) | (with_reducible refine Below.setCell ?_ ?_ _) | (with_reducible refine below_row ?_ ?_ _) | (with_reducible refine Below.drew ?_) | (with_reducible refine below_drewN ?_ _) | (with_reducible refine Below.trans ?_ (Below.mono (by assumption) ?_)) | (first | exact Nat.le_refl _ | omega | (simp; done) | (simp; omega))))
set_option maxHeartbeats 4000000 in
set_option maxRecDepth 100000 in
theorem rRead_NF (s A B C T1 T2 : ByteArray) (V : ByteArray → Int) (w : World) (h : s.size ≤ 80)
    (HW : Hid (∀ W, Calls Tryd.prog 25 #[.string s] W fun e w' => ∃ g cap, e = .returned (.slice (some ⟨g, 0, none⟩) 4 cap) ∧ W.heap.size ≤ g ∧ g < w'.heap.size ∧ W3 w' g A B C ∧ Below W.heap.size W w'))
    (HV : Hid (∀ X W, (X = A ∨ X = B ∨ X = C) → Calls Tryd.prog 26 #[.string X] W fun e w' => e = .returned (.int .i64 (V X)) ∧ w' = W))
    (hV : ∀ X, -10000000000 < V X ∧ V X < 10000000000) (H1 : Round Tryd.prog V A B C 1 100 true T1) (H2 : Round Tryd.prog V A B C 2 254 false T2) (hT1 : ¬ T1 = s) :
    Calls Tryd.prog 10 #[.string s] w (DidRead (none) w) := by
  have h' : (s.size : Int) ≤ 80 := by omega
  have va := hV A
  have vb := hV B
  have vc := hV C
  have k2 : IntKind.i64.wrap (V A + V B) = V A + V B := IntWalk.i64_in _ (by omega)
  have k3 : IntKind.i64.wrap (V A + V C) = V A + V C := IntWalk.i64_in _ (by omega)
  have HS1 := Lib.hid H1.step
  have HD1 := Lib.hid H1.dim
  have HT1 := Lib.hid (H1.text rfl)
  have q1 : (T1.toList == s.toList) = false := toList_ne hT1
  have k1_1 : IntKind.i64.wrap (V A * 100) = V A * 100 := IntWalk.i64_in _ (by omega)
  have k4_1 : IntKind.i64.wrap ((V A + V B) * 100) = (V A + V B) * 100 := IntWalk.i64_in _ (by omega)
  have k5_1 : IntKind.i64.wrap ((V A + V C) * 100) = (V A + V C) * 100 := IntWalk.i64_in _ (by omega)
  have HS2 := Lib.hid H2.step
  have HD2 := Lib.hid H2.dim
  have k1_2 : IntKind.i64.wrap (V A * 254) = V A * 254 := IntWalk.i64_in _ (by omega)
  have k4_2 : IntKind.i64.wrap ((V A + V B) * 254) = (V A + V B) * 254 := IntWalk.i64_in _ (by omega)
  have k5_2 : IntKind.i64.wrap ((V A + V C) * 254) = (V A + V C) * 254 := IntWalk.i64_in _ (by omega)
  clear hV H1 H2
  go_enter Tryd.func10, Tryd.ntmps10
  go_wp2_with fail
  refine (HW.out _).mono ?_
  rintro e w1 ⟨g, cap, rfl, hg0, hg, hW, hb1⟩
  have s1 := hb1.size; try simp only [World.size_alloc, World.size_setCell, World.size_drew, setRow_size] at s1
  have LG := Lib.hid ((Lies.new (u := w) (t := 23) (cs := #[.int .i64 0, .int .i64 0, .int .i64 0]) rfl).after hb1)
  have hbw : Below w.heap.size w w1 := Below.trans (by (repeat' (first | (with_reducible exact Below.refl _ _) | (with_reducible assumption) | (with_reducible refine Below.alloc ?_ ?_ _) | (with_reducible refine Below.setCell ?_ ?_ _) | (with_reducible refine below_row ?_ ?_ _) | (with_reducible refine Below.drew ?_) | (with_reducible refine below_drewN ?_ _) | (with_reducible refine Below.trans ?_ (Below.mono (by assumption) ?_)) | (first | exact Nat.le_refl _ | omega | (simp; done) | (simp; omega))))) (hb1.mono (by simp))
  simp only [World.size_alloc] at hg0
  clear hb1
  have HH := Lib.hid hW
  clear hW
  go_wp2_with fail
  refine wp_loop_rounds 3 ?_
  rw [rounds_succ]
  go_wp2_with fail
  refine (HS1.out _).mono ?_
  rintro e w1a ⟨rfl, hb⟩
  have zw1a : w1.heap.size ≤ w1a.heap.size := hb.size
  replace LG := Lib.hid (LG.out.after hb)
  replace HH := Lib.hid (HH.out.after hg hb)
  replace hbw : Below w.heap.size w w1a := hbw.trans (hb.mono (by omega))
  replace hg : g < w1a.heap.size := by omega
  obtain ⟨c0, c1, c2⟩ := HH.out
  clear hb
  go_wp2_with fail
  refine (HV.out _ _ (.inl rfl)).mono ?_
  rintro e w1b ⟨rfl, hE⟩
  subst hE
  go_wp2_with fail
  apply keyed
  case k =>
    intro KEY
    go_region_held3 (fun W => W.cell? ⟨g, 1, none⟩ = some (.string B) ∧ W.cell? ⟨g, 2, none⟩ = some (.string C)) (go_keep)
      (first | (go_at_call 26; refine (HV.out _ _ (by first | exact .inr (.inl rfl) | exact .inr (.inr rfl))).mono ?_; rintro e w' ⟨rfl, hE⟩; subst hE))
    all_goals exact KEY.out
  clear c0 c1 c2
  obtain ⟨w1c, hw, hb, LD⟩ := mid6 w1b #[.int .i64 (V A * 100), .int .i64 ((V A + V B) * 100), .int .i64 ((V A + V C) * 100)]
  rw [hw]
  clear hw
  replace LG := Lib.hid (LG.out.after hb)
  replace HH := Lib.hid (HH.out.after hg hb)
  replace hbw : Below w.heap.size w w1c := hbw.trans (hb.mono (by omega))
  have zw1c : w1b.heap.size ≤ w1c.heap.size := hb.size
  replace hg : g < w1c.heap.size := by omega
  clear hb
  replace LD := Lib.hid LD
  obtain ⟨d0, d1, d2, -, -, -⟩ := LD.out.c3
  go_wp2_with fail
  refine (HD1.out _).mono ?_
  rintro e w1d ⟨rfl, hb⟩
  replace LG := Lib.hid (LG.out.after hb)
  replace LD := Lib.hid (LD.out.after hb)
  replace HH := Lib.hid (HH.out.after hg hb)
  replace hbw : Below w.heap.size w w1d := hbw.trans (hb.mono (by omega))
  have zw1d : w1c.heap.size ≤ w1d.heap.size := hb.size
  replace hg : g < w1d.heap.size := by omega
  clear hb d0 d1 d2
  obtain ⟨d0, d1, d2, -, -, -⟩ := LD.out.c3
  go_wp2_with fail
  refine (HT1.out _).mono ?_
  rintro e w1e ⟨rfl, hb⟩
  replace LG := Lib.hid (LG.out.after hb)
  replace LD := Lib.hid (LD.out.after hb)
  replace HH := Lib.hid (HH.out.after hg hb)
  replace hbw : Below w.heap.size w w1e := hbw.trans (hb.mono (by omega))
  have zw1e : w1d.heap.size ≤ w1e.heap.size := hb.size
  replace hg : g < w1e.heap.size := by omega
  clear hb d0 d1 d2
  obtain ⟨d0, d1, d2, -, -, -⟩ := LD.out.c3
  go_wp2_with fail
  clear LD d0 d1 d2
  rw [rounds_succ]
  go_wp2_with fail
  refine (HS2.out _).mono ?_
  rintro e w2a ⟨rfl, hb⟩
  have zw2a : w1e.heap.size ≤ w2a.heap.size := hb.size
  replace LG := Lib.hid (LG.out.after hb)
  replace HH := Lib.hid (HH.out.after hg hb)
  replace hbw : Below w.heap.size w w2a := hbw.trans (hb.mono (by omega))
  replace hg : g < w2a.heap.size := by omega
  obtain ⟨c0, c1, c2⟩ := HH.out
  clear hb
  go_wp2_with fail
  refine (HV.out _ _ (.inl rfl)).mono ?_
  rintro e w2b ⟨rfl, hE⟩
  subst hE
  go_wp2_with fail
  apply keyed
  case k =>
    intro KEY
    go_region_held3 (fun W => W.cell? ⟨g, 1, none⟩ = some (.string B) ∧ W.cell? ⟨g, 2, none⟩ = some (.string C)) (go_keep)
      (first | (go_at_call 26; refine (HV.out _ _ (by first | exact .inr (.inl rfl) | exact .inr (.inr rfl))).mono ?_; rintro e w' ⟨rfl, hE⟩; subst hE))
    all_goals exact KEY.out
  clear c0 c1 c2
  obtain ⟨w2c, hw, hb, LD⟩ := mid6 w2b #[.int .i64 (V A * 254), .int .i64 ((V A + V B) * 254), .int .i64 ((V A + V C) * 254)]
  rw [hw]
  clear hw
  replace LG := Lib.hid (LG.out.after hb)
  replace HH := Lib.hid (HH.out.after hg hb)
  replace hbw : Below w.heap.size w w2c := hbw.trans (hb.mono (by omega))
  have zw2c : w2b.heap.size ≤ w2c.heap.size := hb.size
  replace hg : g < w2c.heap.size := by omega
  clear hb
  replace LD := Lib.hid LD
  obtain ⟨d0, d1, d2, -, -, -⟩ := LD.out.c3
  go_wp2_with fail
  refine (HD2.out _).mono ?_
  rintro e w2d ⟨rfl, hb⟩
  replace LG := Lib.hid (LG.out.after hb)
  replace LD := Lib.hid (LD.out.after hb)
  replace HH := Lib.hid (HH.out.after hg hb)
  replace hbw : Below w.heap.size w w2d := hbw.trans (hb.mono (by omega))
  have zw2d : w2c.heap.size ≤ w2d.heap.size := hb.size
  replace hg : g < w2d.heap.size := by omega
  clear hb d0 d1 d2
  obtain ⟨d0, d1, d2, -, -, -⟩ := LD.out.c3
  go_wp2_with fail
  clear LD d0 d1 d2
  obtain ⟨r0, r1, r2, f0, f1, f2⟩ := LG.out.c3
  have zG := LG.out.lt
  rw [rounds_succ]
  go_wp2_with fail
  refine bodyPost_ret (results_ctt1 Tryd.results10 _ _ w.heap.size _ _ _ rfl (((LG.out.store 0 _).store 1 _).store 2 _) Tryd.underlying23 rfl (by kernel_rfl)) rfl ⟨rfl, ?_⟩
  (repeat' (first | (with_reducible exact Below.refl _ _) | (with_reducible assumption) | (with_reducible refine Below.alloc ?_ ?_ _) | (with_reducible refine Below.setCell ?_ ?_ _) | (with_reducible refine below_row ?_ ?_ _) | (with_reducible refine Below.drew ?_) | (with_reducible refine below_drewN ?_ _) | (with_reducible refine Below.trans ?_ (Below.mono (by assumption) ?_)) | (first | exact Nat.le_refl _ | omega | (simp; done) | (simp; omega))))
set_option maxHeartbeats 4000000 in
set_option maxRecDepth 100000 in
theorem rRead_NN (s A B C T1 T2 : ByteArray) (V : ByteArray → Int) (w : World) (h : s.size ≤ 80)
    (HW : Hid (∀ W, Calls Tryd.prog 25 #[.string s] W fun e w' => ∃ g cap, e = .returned (.slice (some ⟨g, 0, none⟩) 4 cap) ∧ W.heap.size ≤ g ∧ g < w'.heap.size ∧ W3 w' g A B C ∧ Below W.heap.size W w'))
    (HV : Hid (∀ X W, (X = A ∨ X = B ∨ X = C) → Calls Tryd.prog 26 #[.string X] W fun e w' => e = .returned (.int .i64 (V X)) ∧ w' = W))
    (hV : ∀ X, -10000000000 < V X ∧ V X < 10000000000) (H1 : Round Tryd.prog V A B C 1 100 true T1) (H2 : Round Tryd.prog V A B C 2 254 true T2) (hT1 : ¬ T1 = s) (hT2 : ¬ T2 = s) :
    Calls Tryd.prog 10 #[.string s] w (DidRead (none) w) := by
  have h' : (s.size : Int) ≤ 80 := by omega
  have va := hV A
  have vb := hV B
  have vc := hV C
  have k2 : IntKind.i64.wrap (V A + V B) = V A + V B := IntWalk.i64_in _ (by omega)
  have k3 : IntKind.i64.wrap (V A + V C) = V A + V C := IntWalk.i64_in _ (by omega)
  have HS1 := Lib.hid H1.step
  have HD1 := Lib.hid H1.dim
  have HT1 := Lib.hid (H1.text rfl)
  have q1 : (T1.toList == s.toList) = false := toList_ne hT1
  have k1_1 : IntKind.i64.wrap (V A * 100) = V A * 100 := IntWalk.i64_in _ (by omega)
  have k4_1 : IntKind.i64.wrap ((V A + V B) * 100) = (V A + V B) * 100 := IntWalk.i64_in _ (by omega)
  have k5_1 : IntKind.i64.wrap ((V A + V C) * 100) = (V A + V C) * 100 := IntWalk.i64_in _ (by omega)
  have HS2 := Lib.hid H2.step
  have HD2 := Lib.hid H2.dim
  have HT2 := Lib.hid (H2.text rfl)
  have q2 : (T2.toList == s.toList) = false := toList_ne hT2
  have k1_2 : IntKind.i64.wrap (V A * 254) = V A * 254 := IntWalk.i64_in _ (by omega)
  have k4_2 : IntKind.i64.wrap ((V A + V B) * 254) = (V A + V B) * 254 := IntWalk.i64_in _ (by omega)
  have k5_2 : IntKind.i64.wrap ((V A + V C) * 254) = (V A + V C) * 254 := IntWalk.i64_in _ (by omega)
  clear hV H1 H2
  go_enter Tryd.func10, Tryd.ntmps10
  go_wp2_with fail
  refine (HW.out _).mono ?_
  rintro e w1 ⟨g, cap, rfl, hg0, hg, hW, hb1⟩
  have s1 := hb1.size; try simp only [World.size_alloc, World.size_setCell, World.size_drew, setRow_size] at s1
  have LG := Lib.hid ((Lies.new (u := w) (t := 23) (cs := #[.int .i64 0, .int .i64 0, .int .i64 0]) rfl).after hb1)
  have hbw : Below w.heap.size w w1 := Below.trans (by (repeat' (first | (with_reducible exact Below.refl _ _) | (with_reducible assumption) | (with_reducible refine Below.alloc ?_ ?_ _) | (with_reducible refine Below.setCell ?_ ?_ _) | (with_reducible refine below_row ?_ ?_ _) | (with_reducible refine Below.drew ?_) | (with_reducible refine below_drewN ?_ _) | (with_reducible refine Below.trans ?_ (Below.mono (by assumption) ?_)) | (first | exact Nat.le_refl _ | omega | (simp; done) | (simp; omega))))) (hb1.mono (by simp))
  simp only [World.size_alloc] at hg0
  clear hb1
  have HH := Lib.hid hW
  clear hW
  go_wp2_with fail
  refine wp_loop_rounds 3 ?_
  rw [rounds_succ]
  go_wp2_with fail
  refine (HS1.out _).mono ?_
  rintro e w1a ⟨rfl, hb⟩
  have zw1a : w1.heap.size ≤ w1a.heap.size := hb.size
  replace LG := Lib.hid (LG.out.after hb)
  replace HH := Lib.hid (HH.out.after hg hb)
  replace hbw : Below w.heap.size w w1a := hbw.trans (hb.mono (by omega))
  replace hg : g < w1a.heap.size := by omega
  obtain ⟨c0, c1, c2⟩ := HH.out
  clear hb
  go_wp2_with fail
  refine (HV.out _ _ (.inl rfl)).mono ?_
  rintro e w1b ⟨rfl, hE⟩
  subst hE
  go_wp2_with fail
  apply keyed
  case k =>
    intro KEY
    go_region_held3 (fun W => W.cell? ⟨g, 1, none⟩ = some (.string B) ∧ W.cell? ⟨g, 2, none⟩ = some (.string C)) (go_keep)
      (first | (go_at_call 26; refine (HV.out _ _ (by first | exact .inr (.inl rfl) | exact .inr (.inr rfl))).mono ?_; rintro e w' ⟨rfl, hE⟩; subst hE))
    all_goals exact KEY.out
  clear c0 c1 c2
  obtain ⟨w1c, hw, hb, LD⟩ := mid6 w1b #[.int .i64 (V A * 100), .int .i64 ((V A + V B) * 100), .int .i64 ((V A + V C) * 100)]
  rw [hw]
  clear hw
  replace LG := Lib.hid (LG.out.after hb)
  replace HH := Lib.hid (HH.out.after hg hb)
  replace hbw : Below w.heap.size w w1c := hbw.trans (hb.mono (by omega))
  have zw1c : w1b.heap.size ≤ w1c.heap.size := hb.size
  replace hg : g < w1c.heap.size := by omega
  clear hb
  replace LD := Lib.hid LD
  obtain ⟨d0, d1, d2, -, -, -⟩ := LD.out.c3
  go_wp2_with fail
  refine (HD1.out _).mono ?_
  rintro e w1d ⟨rfl, hb⟩
  replace LG := Lib.hid (LG.out.after hb)
  replace LD := Lib.hid (LD.out.after hb)
  replace HH := Lib.hid (HH.out.after hg hb)
  replace hbw : Below w.heap.size w w1d := hbw.trans (hb.mono (by omega))
  have zw1d : w1c.heap.size ≤ w1d.heap.size := hb.size
  replace hg : g < w1d.heap.size := by omega
  clear hb d0 d1 d2
  obtain ⟨d0, d1, d2, -, -, -⟩ := LD.out.c3
  go_wp2_with fail
  refine (HT1.out _).mono ?_
  rintro e w1e ⟨rfl, hb⟩
  replace LG := Lib.hid (LG.out.after hb)
  replace LD := Lib.hid (LD.out.after hb)
  replace HH := Lib.hid (HH.out.after hg hb)
  replace hbw : Below w.heap.size w w1e := hbw.trans (hb.mono (by omega))
  have zw1e : w1d.heap.size ≤ w1e.heap.size := hb.size
  replace hg : g < w1e.heap.size := by omega
  clear hb d0 d1 d2
  obtain ⟨d0, d1, d2, -, -, -⟩ := LD.out.c3
  go_wp2_with fail
  clear LD d0 d1 d2
  rw [rounds_succ]
  go_wp2_with fail
  refine (HS2.out _).mono ?_
  rintro e w2a ⟨rfl, hb⟩
  have zw2a : w1e.heap.size ≤ w2a.heap.size := hb.size
  replace LG := Lib.hid (LG.out.after hb)
  replace HH := Lib.hid (HH.out.after hg hb)
  replace hbw : Below w.heap.size w w2a := hbw.trans (hb.mono (by omega))
  replace hg : g < w2a.heap.size := by omega
  obtain ⟨c0, c1, c2⟩ := HH.out
  clear hb
  go_wp2_with fail
  refine (HV.out _ _ (.inl rfl)).mono ?_
  rintro e w2b ⟨rfl, hE⟩
  subst hE
  go_wp2_with fail
  apply keyed
  case k =>
    intro KEY
    go_region_held3 (fun W => W.cell? ⟨g, 1, none⟩ = some (.string B) ∧ W.cell? ⟨g, 2, none⟩ = some (.string C)) (go_keep)
      (first | (go_at_call 26; refine (HV.out _ _ (by first | exact .inr (.inl rfl) | exact .inr (.inr rfl))).mono ?_; rintro e w' ⟨rfl, hE⟩; subst hE))
    all_goals exact KEY.out
  clear c0 c1 c2
  obtain ⟨w2c, hw, hb, LD⟩ := mid6 w2b #[.int .i64 (V A * 254), .int .i64 ((V A + V B) * 254), .int .i64 ((V A + V C) * 254)]
  rw [hw]
  clear hw
  replace LG := Lib.hid (LG.out.after hb)
  replace HH := Lib.hid (HH.out.after hg hb)
  replace hbw : Below w.heap.size w w2c := hbw.trans (hb.mono (by omega))
  have zw2c : w2b.heap.size ≤ w2c.heap.size := hb.size
  replace hg : g < w2c.heap.size := by omega
  clear hb
  replace LD := Lib.hid LD
  obtain ⟨d0, d1, d2, -, -, -⟩ := LD.out.c3
  go_wp2_with fail
  refine (HD2.out _).mono ?_
  rintro e w2d ⟨rfl, hb⟩
  replace LG := Lib.hid (LG.out.after hb)
  replace LD := Lib.hid (LD.out.after hb)
  replace HH := Lib.hid (HH.out.after hg hb)
  replace hbw : Below w.heap.size w w2d := hbw.trans (hb.mono (by omega))
  have zw2d : w2c.heap.size ≤ w2d.heap.size := hb.size
  replace hg : g < w2d.heap.size := by omega
  clear hb d0 d1 d2
  obtain ⟨d0, d1, d2, -, -, -⟩ := LD.out.c3
  go_wp2_with fail
  refine (HT2.out _).mono ?_
  rintro e w2e ⟨rfl, hb⟩
  replace LG := Lib.hid (LG.out.after hb)
  replace LD := Lib.hid (LD.out.after hb)
  replace HH := Lib.hid (HH.out.after hg hb)
  replace hbw : Below w.heap.size w w2e := hbw.trans (hb.mono (by omega))
  have zw2e : w2d.heap.size ≤ w2e.heap.size := hb.size
  replace hg : g < w2e.heap.size := by omega
  clear hb d0 d1 d2
  obtain ⟨d0, d1, d2, -, -, -⟩ := LD.out.c3
  go_wp2_with fail
  clear LD d0 d1 d2
  obtain ⟨r0, r1, r2, f0, f1, f2⟩ := LG.out.c3
  have zG := LG.out.lt
  rw [rounds_succ]
  go_wp2_with fail
  refine bodyPost_ret (results_ctt1 Tryd.results10 _ _ w.heap.size _ _ _ rfl (((LG.out.store 0 _).store 1 _).store 2 _) Tryd.underlying23 rfl (by kernel_rfl)) rfl ⟨rfl, ?_⟩
  (repeat' (first | (with_reducible exact Below.refl _ _) | (with_reducible assumption) | (with_reducible refine Below.alloc ?_ ?_ _) | (with_reducible refine Below.setCell ?_ ?_ _) | (with_reducible refine below_row ?_ ?_ _) | (with_reducible refine Below.drew ?_) | (with_reducible refine below_drewN ?_ _) | (with_reducible refine Below.trans ?_ (Below.mono (by assumption) ?_)) | (first | exact Nat.le_refl _ | omega | (simp; done) | (simp; omega))))
set_option maxHeartbeats 4000000 in
set_option maxRecDepth 100000 in
theorem rRead_NH (s A B C T1 T2 : ByteArray) (V : ByteArray → Int) (w : World) (h : s.size ≤ 80)
    (HW : Hid (∀ W, Calls Tryd.prog 25 #[.string s] W fun e w' => ∃ g cap, e = .returned (.slice (some ⟨g, 0, none⟩) 4 cap) ∧ W.heap.size ≤ g ∧ g < w'.heap.size ∧ W3 w' g A B C ∧ Below W.heap.size W w'))
    (HV : Hid (∀ X W, (X = A ∨ X = B ∨ X = C) → Calls Tryd.prog 26 #[.string X] W fun e w' => e = .returned (.int .i64 (V X)) ∧ w' = W))
    (hV : ∀ X, -10000000000 < V X ∧ V X < 10000000000) (H1 : Round Tryd.prog V A B C 1 100 true T1) (H2 : Round Tryd.prog V A B C 2 254 true T2) (hT1 : ¬ T1 = s) (hT2 : T2 = s) :
    Calls Tryd.prog 10 #[.string s] w (DidRead (some ((V A * 254, (V A + V B) * 254, (V A + V C) * 254), 2)) w) := by
  have h' : (s.size : Int) ≤ 80 := by omega
  have va := hV A
  have vb := hV B
  have vc := hV C
  have k2 : IntKind.i64.wrap (V A + V B) = V A + V B := IntWalk.i64_in _ (by omega)
  have k3 : IntKind.i64.wrap (V A + V C) = V A + V C := IntWalk.i64_in _ (by omega)
  have HS1 := Lib.hid H1.step
  have HD1 := Lib.hid H1.dim
  have HT1 := Lib.hid (H1.text rfl)
  have q1 : (T1.toList == s.toList) = false := toList_ne hT1
  have k1_1 : IntKind.i64.wrap (V A * 100) = V A * 100 := IntWalk.i64_in _ (by omega)
  have k4_1 : IntKind.i64.wrap ((V A + V B) * 100) = (V A + V B) * 100 := IntWalk.i64_in _ (by omega)
  have k5_1 : IntKind.i64.wrap ((V A + V C) * 100) = (V A + V C) * 100 := IntWalk.i64_in _ (by omega)
  have HS2 := Lib.hid H2.step
  have HD2 := Lib.hid H2.dim
  have HT2 := Lib.hid (H2.text rfl)
  have k1_2 : IntKind.i64.wrap (V A * 254) = V A * 254 := IntWalk.i64_in _ (by omega)
  have k4_2 : IntKind.i64.wrap ((V A + V B) * 254) = (V A + V B) * 254 := IntWalk.i64_in _ (by omega)
  have k5_2 : IntKind.i64.wrap ((V A + V C) * 254) = (V A + V C) * 254 := IntWalk.i64_in _ (by omega)
  clear hV H1 H2
  subst hT2
  go_enter Tryd.func10, Tryd.ntmps10
  go_wp2_with fail
  refine (HW.out _).mono ?_
  rintro e w1 ⟨g, cap, rfl, hg0, hg, hW, hb1⟩
  have s1 := hb1.size; try simp only [World.size_alloc, World.size_setCell, World.size_drew, setRow_size] at s1
  have LG := Lib.hid ((Lies.new (u := w) (t := 23) (cs := #[.int .i64 0, .int .i64 0, .int .i64 0]) rfl).after hb1)
  have hbw : Below w.heap.size w w1 := Below.trans (by (repeat' (first | (with_reducible exact Below.refl _ _) | (with_reducible assumption) | (with_reducible refine Below.alloc ?_ ?_ _) | (with_reducible refine Below.setCell ?_ ?_ _) | (with_reducible refine below_row ?_ ?_ _) | (with_reducible refine Below.drew ?_) | (with_reducible refine below_drewN ?_ _) | (with_reducible refine Below.trans ?_ (Below.mono (by assumption) ?_)) | (first | exact Nat.le_refl _ | omega | (simp; done) | (simp; omega))))) (hb1.mono (by simp))
  simp only [World.size_alloc] at hg0
  clear hb1
  have HH := Lib.hid hW
  clear hW
  go_wp2_with fail
  refine wp_loop_rounds 3 ?_
  rw [rounds_succ]
  go_wp2_with fail
  refine (HS1.out _).mono ?_
  rintro e w1a ⟨rfl, hb⟩
  have zw1a : w1.heap.size ≤ w1a.heap.size := hb.size
  replace LG := Lib.hid (LG.out.after hb)
  replace HH := Lib.hid (HH.out.after hg hb)
  replace hbw : Below w.heap.size w w1a := hbw.trans (hb.mono (by omega))
  replace hg : g < w1a.heap.size := by omega
  obtain ⟨c0, c1, c2⟩ := HH.out
  clear hb
  go_wp2_with fail
  refine (HV.out _ _ (.inl rfl)).mono ?_
  rintro e w1b ⟨rfl, hE⟩
  subst hE
  go_wp2_with fail
  apply keyed
  case k =>
    intro KEY
    go_region_held3 (fun W => W.cell? ⟨g, 1, none⟩ = some (.string B) ∧ W.cell? ⟨g, 2, none⟩ = some (.string C)) (go_keep)
      (first | (go_at_call 26; refine (HV.out _ _ (by first | exact .inr (.inl rfl) | exact .inr (.inr rfl))).mono ?_; rintro e w' ⟨rfl, hE⟩; subst hE))
    all_goals exact KEY.out
  clear c0 c1 c2
  obtain ⟨w1c, hw, hb, LD⟩ := mid6 w1b #[.int .i64 (V A * 100), .int .i64 ((V A + V B) * 100), .int .i64 ((V A + V C) * 100)]
  rw [hw]
  clear hw
  replace LG := Lib.hid (LG.out.after hb)
  replace HH := Lib.hid (HH.out.after hg hb)
  replace hbw : Below w.heap.size w w1c := hbw.trans (hb.mono (by omega))
  have zw1c : w1b.heap.size ≤ w1c.heap.size := hb.size
  replace hg : g < w1c.heap.size := by omega
  clear hb
  replace LD := Lib.hid LD
  obtain ⟨d0, d1, d2, -, -, -⟩ := LD.out.c3
  go_wp2_with fail
  refine (HD1.out _).mono ?_
  rintro e w1d ⟨rfl, hb⟩
  replace LG := Lib.hid (LG.out.after hb)
  replace LD := Lib.hid (LD.out.after hb)
  replace HH := Lib.hid (HH.out.after hg hb)
  replace hbw : Below w.heap.size w w1d := hbw.trans (hb.mono (by omega))
  have zw1d : w1c.heap.size ≤ w1d.heap.size := hb.size
  replace hg : g < w1d.heap.size := by omega
  clear hb d0 d1 d2
  obtain ⟨d0, d1, d2, -, -, -⟩ := LD.out.c3
  go_wp2_with fail
  refine (HT1.out _).mono ?_
  rintro e w1e ⟨rfl, hb⟩
  replace LG := Lib.hid (LG.out.after hb)
  replace LD := Lib.hid (LD.out.after hb)
  replace HH := Lib.hid (HH.out.after hg hb)
  replace hbw : Below w.heap.size w w1e := hbw.trans (hb.mono (by omega))
  have zw1e : w1d.heap.size ≤ w1e.heap.size := hb.size
  replace hg : g < w1e.heap.size := by omega
  clear hb d0 d1 d2
  obtain ⟨d0, d1, d2, -, -, -⟩ := LD.out.c3
  go_wp2_with fail
  clear LD d0 d1 d2
  rw [rounds_succ]
  go_wp2_with fail
  refine (HS2.out _).mono ?_
  rintro e w2a ⟨rfl, hb⟩
  have zw2a : w1e.heap.size ≤ w2a.heap.size := hb.size
  replace LG := Lib.hid (LG.out.after hb)
  replace HH := Lib.hid (HH.out.after hg hb)
  replace hbw : Below w.heap.size w w2a := hbw.trans (hb.mono (by omega))
  replace hg : g < w2a.heap.size := by omega
  obtain ⟨c0, c1, c2⟩ := HH.out
  clear hb
  go_wp2_with fail
  refine (HV.out _ _ (.inl rfl)).mono ?_
  rintro e w2b ⟨rfl, hE⟩
  subst hE
  go_wp2_with fail
  apply keyed
  case k =>
    intro KEY
    go_region_held3 (fun W => W.cell? ⟨g, 1, none⟩ = some (.string B) ∧ W.cell? ⟨g, 2, none⟩ = some (.string C)) (go_keep)
      (first | (go_at_call 26; refine (HV.out _ _ (by first | exact .inr (.inl rfl) | exact .inr (.inr rfl))).mono ?_; rintro e w' ⟨rfl, hE⟩; subst hE))
    all_goals exact KEY.out
  clear c0 c1 c2
  obtain ⟨w2c, hw, hb, LD⟩ := mid6 w2b #[.int .i64 (V A * 254), .int .i64 ((V A + V B) * 254), .int .i64 ((V A + V C) * 254)]
  rw [hw]
  clear hw
  replace LG := Lib.hid (LG.out.after hb)
  replace HH := Lib.hid (HH.out.after hg hb)
  replace hbw : Below w.heap.size w w2c := hbw.trans (hb.mono (by omega))
  have zw2c : w2b.heap.size ≤ w2c.heap.size := hb.size
  replace hg : g < w2c.heap.size := by omega
  clear hb
  replace LD := Lib.hid LD
  obtain ⟨d0, d1, d2, -, -, -⟩ := LD.out.c3
  go_wp2_with fail
  refine (HD2.out _).mono ?_
  rintro e w2d ⟨rfl, hb⟩
  replace LG := Lib.hid (LG.out.after hb)
  replace LD := Lib.hid (LD.out.after hb)
  replace HH := Lib.hid (HH.out.after hg hb)
  replace hbw : Below w.heap.size w w2d := hbw.trans (hb.mono (by omega))
  have zw2d : w2c.heap.size ≤ w2d.heap.size := hb.size
  replace hg : g < w2d.heap.size := by omega
  clear hb d0 d1 d2
  obtain ⟨d0, d1, d2, -, -, -⟩ := LD.out.c3
  go_wp2_with fail
  refine (HT2.out _).mono ?_
  rintro e w2e ⟨rfl, hb⟩
  replace LG := Lib.hid (LG.out.after hb)
  replace LD := Lib.hid (LD.out.after hb)
  replace HH := Lib.hid (HH.out.after hg hb)
  replace hbw : Below w.heap.size w w2e := hbw.trans (hb.mono (by omega))
  have zw2e : w2d.heap.size ≤ w2e.heap.size := hb.size
  replace hg : g < w2e.heap.size := by omega
  clear hb d0 d1 d2
  obtain ⟨d0, d1, d2, -, -, -⟩ := LD.out.c3
  obtain ⟨r0, r1, r2, f0, f1, f2⟩ := LG.out.c3
  have zG := LG.out.lt
  go_wp2_with fail
  refine bodyPost_ret (results_ctt1 Tryd.results10 _ _ w.heap.size _ _ _ rfl (((LG.out.store 0 _).store 1 _).store 2 _) Tryd.underlying23 rfl (by kernel_rfl)) rfl ⟨rfl, ?_⟩
  (repeat' (first | (with_reducible exact Below.refl _ _) | (with_reducible assumption) | (with_reducible refine Below.alloc ?_ ?_ _) | (with_reducible refine Below.setCell ?_ ?_ _) | (with_reducible refine below_row ?_ ?_ _) | (with_reducible refine Below.drew ?_) | (with_reducible refine below_drewN ?_ _) | (with_reducible refine Below.trans ?_ (Below.mono (by assumption) ?_)) | (first | exact Nat.le_refl _ | omega | (simp; done) | (simp; omega))))
end Go.Proofs.YtjejjeomknkglaaDoor
