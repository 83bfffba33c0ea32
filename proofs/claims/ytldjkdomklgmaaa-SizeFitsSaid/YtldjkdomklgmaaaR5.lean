/- The reference: Inside, Fit, Wanted, room, Room. -/
import Derived.Test.YtldjkdomklgmaaaR1
import Derived.Test.YtldjkdomklgmaaaV1
namespace Go.Proofs.Ytldjkdomklgmaaa
set_option linter.unusedVariables false
set_option linter.unusedSimpArgs false
open Go.RowKit

theorem bad2_1 {an al au bn bl bu : Int} (h : okD an al au = false) : bad2 an al au bn bl bu = true := by simp [bad2, badD, h]
theorem bad2_2 {an al au bn bl bu : Int} (h : okD bn bl bu = false) : bad2 an al au bn bl bu = true := by simp [bad2, badD, h]

set_option maxHeartbeats 2000000 in
theorem rInside_any (an al au bn bl bu : Int) (w : World) :
    Calls Try.prog 12 #[.agg #[.int .i64 an, .int .i64 al, .int .i64 au], .agg #[.int .i64 bn, .int .i64 bl, .int .i64 bu]] w fun e w' => e = .returned (.tuple #[.bool (insS al au bl bu (bad2 an al au bn bl bu)), .int .i64 (bif bad2 an al au bn bl bu then 10 else 0)]) ∧ Below w.heap.size w w' := by
  have HA := Lib.hid (fun W => rDim_any an al au W)
  have HB := Lib.hid (fun W => rDim_any bn bl bu W)
  by_cases ha : okD an al au = true
  · rw [ha] at HA
    by_cases hb : okD bn bl bu = true
    · rw [hb] at HB
      rw [bad2_iff.2 ⟨ha, hb⟩]
      obtain ⟨-, -, -, h4, -⟩ := okD_iff.1 ha
      obtain ⟨r, hr⟩ : ∃ r, insS al au bl bu false = r := ⟨_, rfl⟩
      rw [hr]
      have hr' : r = (decide (bl ≤ al) && decide (au ≤ bu)) := by
        rw [← hr, Bool.eq_iff_iff]; simp [insS, allIn]; omega
      clear hr ha hb
      by_cases x : bl ≤ al <;> by_cases y : au ≤ bu
      all_goals
        simp only [x, y, decide_true, decide_false, Bool.and_true, Bool.and_false, Bool.false_and, Bool.true_and] at hr'
        subst hr'
        go_enter Try.func12, Try.ntmps12
        go_wp2_with fail
        refine (HA.out _).mono ?_
        rintro e w1 ⟨rfl, hb1⟩
        have s1 := hb1.size; try simp only [World.size_alloc, World.size_setCell, World.size_drew, setRow_size] at s1
        have LA := ((Lies.new (u := w) (t := 23) (cs := #[.int .i64 an, .int .i64 al, .int .i64 au]) rfl).alloc (.cells #[.int .i64 bn, .int .i64 bl, .int .i64 bu] 23)).after hb1
        have LB := (Lies.new (u := w.alloc (.cells #[.int .i64 an, .int .i64 al, .int .i64 au] 23)) (t := 23) (cs := #[.int .i64 bn, .int .i64 bl, .int .i64 bu]) rfl).after hb1
        simp only [World.size_alloc] at LB
        obtain ⟨a0, a1, a2, -, -, -⟩ := LA.c3
        obtain ⟨b0, b1, b2, -, -, -⟩ := LB.c3
        go_wp2_with fail
        refine (HB.out _).mono ?_
        rintro e w2 ⟨rfl, hb2⟩
        have s2 := hb2.size; try simp only [World.size_alloc, World.size_setCell, World.size_drew, setRow_size] at s2
        clear a0 a1 a2 b0 b1 b2
        obtain ⟨a0, a1, a2, -, -, -⟩ := (LA.after hb2).c3
        obtain ⟨b0, b1, b2, -, -, -⟩ := (LB.after hb2).c3
        go_wp2_with fail
        go_ret2
        exact ⟨by first | rfl | (simp; done) | (simp; omega), by (repeat' (first | (with_reducible exact Below.refl _ _) | (with_reducible assumption) | (with_reducible refine Below.alloc ?_ ?_ _) | (with_reducible refine Below.setCell ?_ ?_ _) | (with_reducible refine below_row ?_ ?_ _) | (with_reducible refine Below.drew ?_) | (with_reducible refine below_drewN ?_ _) | (with_reducible refine Below.trans ?_ (Below.mono (by assumption) ?_)) | (first | exact Nat.le_refl _ | omega | (simp; done) | (simp; omega))))⟩
    · have hb' : okD bn bl bu = false := by simpa using hb
      rw [hb'] at HB
      rw [bad2_2 hb']
      go_enter Try.func12, Try.ntmps12
      go_wp2_with fail
      refine (HA.out _).mono ?_
      rintro e w1 ⟨rfl, hb1⟩
      have s1 := hb1.size; try simp only [World.size_alloc, World.size_setCell, World.size_drew, setRow_size] at s1
      have LB := (Lies.new (u := w.alloc (.cells #[.int .i64 an, .int .i64 al, .int .i64 au] 23)) (t := 23) (cs := #[.int .i64 bn, .int .i64 bl, .int .i64 bu]) rfl).after hb1
      simp only [World.size_alloc] at LB
      obtain ⟨b0, b1, b2, -, -, -⟩ := LB.c3
      go_wp2_with fail
      refine (HB.out _).mono ?_
      rintro e w2 ⟨rfl, hb2⟩
      have s2 := hb2.size; try simp only [World.size_alloc, World.size_setCell, World.size_drew, setRow_size] at s2
      go_wp2_with fail
      go_ret2
      exact ⟨rfl, by (repeat' (first | (with_reducible exact Below.refl _ _) | (with_reducible assumption) | (with_reducible refine Below.alloc ?_ ?_ _) | (with_reducible refine Below.setCell ?_ ?_ _) | (with_reducible refine below_row ?_ ?_ _) | (with_reducible refine Below.drew ?_) | (with_reducible refine below_drewN ?_ _) | (with_reducible refine Below.trans ?_ (Below.mono (by assumption) ?_)) | (first | exact Nat.le_refl _ | omega | (simp; done) | (simp; omega))))⟩
  · have ha' : okD an al au = false := by simpa using ha
    rw [ha'] at HA
    rw [bad2_1 ha']
    go_enter Try.func12, Try.ntmps12
    go_wp2_with fail
    refine (HA.out _).mono ?_
    rintro e w1 ⟨rfl, hb1⟩
    have s1 := hb1.size; try simp only [World.size_alloc, World.size_setCell, World.size_drew, setRow_size] at s1
    go_wp2_with fail
    go_ret2
    exact ⟨rfl, by (repeat' (first | (with_reducible exact Below.refl _ _) | (with_reducible assumption) | (with_reducible refine Below.alloc ?_ ?_ _) | (with_reducible refine Below.setCell ?_ ?_ _) | (with_reducible refine below_row ?_ ?_ _) | (with_reducible refine Below.drew ?_) | (with_reducible refine below_drewN ?_ _) | (with_reducible refine Below.trans ?_ (Below.mono (by assumption) ?_)) | (first | exact Nat.le_refl _ | omega | (simp; done) | (simp; omega))))⟩

/-- The results of a function that returns a struct that lies in memory and two values more. -/
theorem results_ctt {P : Program} {fn : Func} {p q r : Tmp} {ty : TypeId} (h : fn.results = #[.cell p ty, .tmp q, .tmp r]) (tmps : Array Value) (w : World) (g : Nat) (t : TypeId) (cs : Array Value) (d : TypeDesc)
    (hp : tmps.getD p undef = .pointer (some ⟨g, 0, none⟩)) (hg : Lies w g t cs)
    (hu : P.underlying ty = some d) (hd : (match d with | .struct _ | .array _ _ => true | _ => false) = true) (hi : (P.info? ty).map (·.size) = some cs.size) :
    (results fn tmps).run P w = .ok (.tuple #[.agg cs, tmps.getD q undef, tmps.getD r undef]) w := by
  have hp' : tmps[p]?.getD undef = .pointer (some ⟨g, 0, none⟩) := by simpa using hp
  simp [results, h, hp', asAddr, run_loadVar_row w g t ty cs (0, 0) d hg hu hd hi]

set_option maxHeartbeats 2000000 in
theorem rFit_ok (an al au bn bl bu : Int) (w : World) (ha : okD an al au = true) (hb : okD bn bl bu = true) :
    Calls Try.prog 14 #[.agg #[.int .i64 an, .int .i64 al, .int .i64 au], .agg #[.int .i64 bn, .int .i64 bl, .int .i64 bu]] w fun e w' => e = .returned (.tuple #[.agg #[.int .i64 (al - bu), .int .i64 (au - bl)], .int .u8 (kindS (al - bu) (au - bl)), .int .i64 0]) ∧ Below w.heap.size w w' := by
  have HA := Lib.hid (fun W => rDim_any an al au W)
  have HB := Lib.hid (fun W => rDim_any bn bl bu W)
  rw [ha] at HA
  rw [hb] at HB
  obtain ⟨ha1, ha2, ha3, ha4, ha5⟩ := okD_iff.1 ha
  obtain ⟨hb1, hb2, hb3, hb4, hb5⟩ := okD_iff.1 hb
  have hk : (0 ≤ al - bu ∧ kindS (al - bu) (au - bl) = 1) ∨ (al - bu < 0 ∧ au - bl ≤ 0 ∧ kindS (al - bu) (au - bl) = 2) ∨ (al - bu < 0 ∧ 0 < au - bl ∧ kindS (al - bu) (au - bl) = 3) := by
    unfold kindS
    by_cases h1 : 0 ≤ al - bu
    · left; exact ⟨h1, by rw [if_pos h1]⟩
    · by_cases h2 : au - bl ≤ 0
      · right; left; exact ⟨by omega, h2, by rw [if_neg h1, if_pos h2]⟩
      · right; right; exact ⟨by omega, by omega, by rw [if_neg h1, if_neg h2]⟩
  clear ha hb
  rcases hk with ⟨k1, hk⟩ | ⟨k1, k2, hk⟩ | ⟨k1, k2, hk⟩
  all_goals
    rw [hk]
    clear hk
    go_enter Try.func14, Try.ntmps14
    go_wp2_with fail
    refine (HA.out _).mono ?_
    rintro e w1 ⟨rfl, hb1⟩
    have s1 := hb1.size; try simp only [World.size_alloc, World.size_setCell, World.size_drew, setRow_size] at s1
    have LA := (((Lies.new (u := w) (t := 23) (cs := #[.int .i64 an, .int .i64 al, .int .i64 au]) rfl).alloc (.cells #[.int .i64 bn, .int .i64 bl, .int .i64 bu] 23)).alloc (.cells #[.int .i64 0, .int .i64 0] 38)).after hb1
    have LB := ((Lies.new (u := w.alloc (.cells #[.int .i64 an, .int .i64 al, .int .i64 au] 23)) (t := 23) (cs := #[.int .i64 bn, .int .i64 bl, .int .i64 bu]) rfl).alloc (.cells #[.int .i64 0, .int .i64 0] 38)).after hb1
    have LR := (Lies.new (u := (w.alloc (.cells #[.int .i64 an, .int .i64 al, .int .i64 au] 23)).alloc (.cells #[.int .i64 bn, .int .i64 bl, .int .i64 bu] 23)) (t := 38) (cs := #[.int .i64 0, .int .i64 0]) rfl).after hb1
    simp only [World.size_alloc] at LB LR
    obtain ⟨b0, b1, b2, -, -, -⟩ := LB.c3
    go_wp2_with fail
    refine (HB.out _).mono ?_
    rintro e w2 ⟨rfl, hb2⟩
    have s2 := hb2.size; try simp only [World.size_alloc, World.size_setCell, World.size_drew, setRow_size] at s2
    clear b0 b1 b2
    obtain ⟨a0, a1, a2, -, -, -⟩ := (LA.after hb2).c3
    obtain ⟨b0, b1, b2, -, -, -⟩ := (LB.after hb2).c3
    have HR := Lib.hid (LR.after hb2)
    obtain ⟨r0, r1, f0, f1⟩ := HR.out.c2
    have zA := (LA.after hb2).lt
    have zB := (LB.after hb2).lt
    have zR := HR.out.lt
    clear LA LB LR
    go_wp2_with fail
    refine bodyPost_ret (results_ctt Try.results14 _ _ (w.heap.size + 1 + 1) _ _ _ rfl (((HR.out.store 0 _).store 1 _).alloc _) Try.underlying38 rfl (by kernel_rfl)) rfl ⟨rfl, ?_⟩
    (repeat' (first | (with_reducible exact Below.refl _ _) | (with_reducible assumption) | (with_reducible refine Below.alloc ?_ ?_ _) | (with_reducible refine Below.setCell ?_ ?_ _) | (with_reducible refine below_row ?_ ?_ _) | (with_reducible refine Below.drew ?_) | (with_reducible refine below_drewN ?_ _) | (with_reducible refine Below.trans ?_ (Below.mono (by assumption) ?_)) | (first | exact Nat.le_refl _ | omega | (simp; done) | (simp; omega))))
set_option maxHeartbeats 2000000 in
theorem rFit_bad1 (an al au bn bl bu : Int) (w : World) (ha : okD an al au = false) :
    Calls Try.prog 14 #[.agg #[.int .i64 an, .int .i64 al, .int .i64 au], .agg #[.int .i64 bn, .int .i64 bl, .int .i64 bu]] w fun e w' => e = .returned (.tuple #[.agg #[.int .i64 0, .int .i64 0], .int .u8 0, .int .i64 10]) ∧ Below w.heap.size w w' := by
  have HA := Lib.hid (fun W => rDim_any an al au W)
  rw [ha] at HA
  go_enter Try.func14, Try.ntmps14
  go_wp2_with fail
  refine (HA.out _).mono ?_
  rintro e w1 ⟨rfl, hb1⟩
  have s1 := hb1.size; try simp only [World.size_alloc, World.size_setCell, World.size_drew, setRow_size] at s1
  have LR := (Lies.new (u := (w.alloc (.cells #[.int .i64 an, .int .i64 al, .int .i64 au] 23)).alloc (.cells #[.int .i64 bn, .int .i64 bl, .int .i64 bu] 23)) (t := 38) (cs := #[.int .i64 0, .int .i64 0]) rfl).after hb1
  simp only [World.size_alloc] at LR
  have HR := Lib.hid LR
  have zR := LR.lt
  obtain ⟨r0, r1, f0, f1⟩ := LR.c2
  clear LR
  go_wp2_with fail
  refine bodyPost_ret (results_ctt Try.results14 _ _ (w.heap.size + 1 + 1) _ _ _ rfl ((HR.out.store 0 _).store 1 _) Try.underlying38 rfl (by kernel_rfl)) rfl ⟨rfl, ?_⟩
  (repeat' (first | (with_reducible exact Below.refl _ _) | (with_reducible assumption) | (with_reducible refine Below.alloc ?_ ?_ _) | (with_reducible refine Below.setCell ?_ ?_ _) | (with_reducible refine below_row ?_ ?_ _) | (with_reducible refine Below.drew ?_) | (with_reducible refine below_drewN ?_ _) | (with_reducible refine Below.trans ?_ (Below.mono (by assumption) ?_)) | (first | exact Nat.le_refl _ | omega | (simp; done) | (simp; omega))))
set_option maxHeartbeats 2000000 in
theorem rFit_bad2 (an al au bn bl bu : Int) (w : World) (ha : okD an al au = true) (hb : okD bn bl bu = false) :
    Calls Try.prog 14 #[.agg #[.int .i64 an, .int .i64 al, .int .i64 au], .agg #[.int .i64 bn, .int .i64 bl, .int .i64 bu]] w fun e w' => e = .returned (.tuple #[.agg #[.int .i64 0, .int .i64 0], .int .u8 0, .int .i64 10]) ∧ Below w.heap.size w w' := by
  have HA := Lib.hid (fun W => rDim_any an al au W)
  have HB := Lib.hid (fun W => rDim_any bn bl bu W)
  rw [ha] at HA
  rw [hb] at HB
  go_enter Try.func14, Try.ntmps14
  go_wp2_with fail
  refine (HA.out _).mono ?_
  rintro e w1 ⟨rfl, hb1⟩
  have s1 := hb1.size; try simp only [World.size_alloc, World.size_setCell, World.size_drew, setRow_size] at s1
  have LB := ((Lies.new (u := w.alloc (.cells #[.int .i64 an, .int .i64 al, .int .i64 au] 23)) (t := 23) (cs := #[.int .i64 bn, .int .i64 bl, .int .i64 bu]) rfl).alloc (.cells #[.int .i64 0, .int .i64 0] 38)).after hb1
  have LR := (Lies.new (u := (w.alloc (.cells #[.int .i64 an, .int .i64 al, .int .i64 au] 23)).alloc (.cells #[.int .i64 bn, .int .i64 bl, .int .i64 bu] 23)) (t := 38) (cs := #[.int .i64 0, .int .i64 0]) rfl).after hb1
  simp only [World.size_alloc] at LB LR
  obtain ⟨b0, b1, b2, -, -, -⟩ := LB.c3
  go_wp2_with fail
  refine (HB.out _).mono ?_
  rintro e w2 ⟨rfl, hb2⟩
  have s2 := hb2.size; try simp only [World.size_alloc, World.size_setCell, World.size_drew, setRow_size] at s2
  clear b0 b1 b2 LB
  have HR := Lib.hid (LR.after hb2)
  clear LR
  obtain ⟨r0, r1, f0, f1⟩ := HR.out.c2
  have zR := HR.out.lt
  go_wp2_with fail
  refine bodyPost_ret (results_ctt Try.results14 _ _ (w.heap.size + 1 + 1) _ _ _ rfl ((HR.out.store 0 _).store 1 _) Try.underlying38 rfl (by kernel_rfl)) rfl ⟨rfl, ?_⟩
  (repeat' (first | (with_reducible exact Below.refl _ _) | (with_reducible assumption) | (with_reducible refine Below.alloc ?_ ?_ _) | (with_reducible refine Below.setCell ?_ ?_ _) | (with_reducible refine below_row ?_ ?_ _) | (with_reducible refine Below.drew ?_) | (with_reducible refine below_drewN ?_ _) | (with_reducible refine Below.trans ?_ (Below.mono (by assumption) ?_)) | (first | exact Nat.le_refl _ | omega | (simp; done) | (simp; omega))))
theorem rFit_any (an al au bn bl bu : Int) (w : World) :
    Calls Try.prog 14 #[.agg #[.int .i64 an, .int .i64 al, .int .i64 au], .agg #[.int .i64 bn, .int .i64 bl, .int .i64 bu]] w fun e w' => e = .returned (.tuple #[.agg #[.int .i64 ((fitS al au bl bu (bad2 an al au bn bl bu)).1.1), .int .i64 ((fitS al au bl bu (bad2 an al au bn bl bu)).1.2)], .int .u8 ((fitS al au bl bu (bad2 an al au bn bl bu)).2.1), .int .i64 ((fitS al au bl bu (bad2 an al au bn bl bu)).2.2)]) ∧ Below w.heap.size w w' := by
  by_cases ha : okD an al au = true
  · by_cases hb : okD bn bl bu = true
    · rw [bad2_iff.2 ⟨ha, hb⟩]; exact rFit_ok an al au bn bl bu w ha hb
    · rw [bad2_2 (by simpa using hb)]; exact rFit_bad2 an al au bn bl bu w ha (by simpa using hb)
  · rw [bad2_1 (by simpa using ha)]; exact rFit_bad1 an al au bn bl bu w (by simpa using ha)
end Go.Proofs.Ytldjkdomklgmaaa
