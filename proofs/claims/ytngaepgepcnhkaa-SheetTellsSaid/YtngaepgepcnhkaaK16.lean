/- The reference: listed. -/
import Derived.Test.YtngaepgepcnhkaaK12
import Derived.Test.YtngaepgepcnhkaaK15
import Derived.Test.YtngaepgepcnhkaaJB
import Derived.Test.YtngaepgepcnhkaaJM0
namespace Go.Proofs.Ytngaepgepcnhkaa
set_option linter.unusedVariables false
set_option linter.unusedSimpArgs false
open Go.RowKit

def rightR : Iss → List Iss → Bool
  | _, [] => true
  | b, x :: r => issueR x && orderB b x && rightR x r
def listedR (xs : List Iss) : Bool := inB 1 60 xs.length && rightR zeroI xs && completeB xs (numbersR xs) && decide ((numbersR xs).length ≤ 20)
def prevI (xs : List Iss) (k : Nat) : Iss := if h : 0 < k ∧ k - 1 < xs.length then xs[k - 1] else zeroI
theorem rightR_step {xs : List Iss} {k : Nat} (h : k < xs.length) : rightR (prevI xs k) (xs.drop k) = (issueR xs[k] && orderB (prevI xs k) xs[k] && rightR (prevI xs (k + 1)) (xs.drop (k + 1))) := by
  rw [List.drop_eq_getElem_cons h, rightR]
  congr 2
  unfold prevI
  rw [dif_pos ⟨by omega, by simpa using h⟩]
  simp

set_option maxRecDepth 100000 in
set_option maxHeartbeats 16000000 in
theorem rListed_any (A : Option Addr) (c b off : Nat) (xs : List Iss) (vi vd : Nat → Value) (w : World) (hl : xs.length ≤ 1000) (hsm : ∀ x ∈ xs, x.items.length ≤ 1000 ∧ x.dims.length ≤ 1000) (hA : 0 < xs.length → A = some ⟨b, off, none⟩) (hc : IssRow w b off xs vi vd) :
    Calls Try.prog 67 #[.agg #[.slice A xs.length c]] w fun e w' => e = .returned (.bool (listedR xs)) ∧ Below w.heap.size w w' := by
  have HWI := Lib.hid (fun W => rwithin_any (xs.length : Int) 1 60 W)
  have HISS : Hid (∀ k (h : k < xs.length) W, Below w.heap.size w W → Calls Try.prog 116 #[.agg #[.int .i64 (xs[k].d), .int .i64 (xs[k].l), .int .u8 xs[k].k, vi k, vd k]] W fun e w' => e = .returned (.bool (issueR xs[k])) ∧ Below W.heap.size W w') :=
    Lib.hid (fun k h W hW => rIssue_any xs[k] (vi k) (vd k) W (hc k h).2.2.2.2.2.1 (hsm _ (List.getElem_mem h)).1 (hsm _ (List.getElem_mem h)).2 ((hc k h).2.2.2.2.2.2.1.after hW) ((hc k h).2.2.2.2.2.2.2.1.after hW))
  have HNU := Lib.hid (fun W (hW : Below w.heap.size w W) => rNumbers_any A c b off xs vi vd W hl hA (hc.after hW))
  have HA := Lib.hid hA
  have HC := Lib.hid hc
  have HSM := Lib.hid hsm
  have HLI : Hid (listedR xs = (inB 1 60 xs.length && rightR zeroI xs && completeB xs (numbersR xs) && decide ((numbersR xs).length ≤ 20))) := Lib.hid rfl
  clear hA hc hsm
  have HD0 := Lib.hid (Lies.made w 24 #[.slice A xs.length c])
  generalize inB 1 60 (xs.length : Int) = pin at *
  cases pin
  · have HR : Hid (listedR xs = false) := Lib.hid (by rw [HLI.out]; rfl)
    go_enter Try.func67, Try.ntmps67
    go_wp2_with fail
    refine (HWI.out _).mono ?_
    rintro e w1 ⟨rfl, rfl⟩
    go_wp2
    go_ret
    exact ⟨ret_bool HR.out.symm, by (repeat' (first | (with_reducible exact Below.refl _ _) | (with_reducible assumption) | (with_reducible refine Below.alloc ?_ ?_ _) | (with_reducible refine Below.setCell ?_ ?_ _) | (with_reducible refine below_row ?_ ?_ _) | (with_reducible refine Below.drew ?_) | (with_reducible refine below_drewN ?_ _) | (with_reducible refine Below.trans ?_ (Below.mono (by assumption) ?_)) | (first | exact Nat.le_refl _ | omega | (simp; done) | (simp; omega) | (exact Below.size (by assumption)))))⟩
  have HLI2 : Hid (listedR xs = (rightR zeroI xs && completeB xs (numbersR xs) && decide ((numbersR xs).length ≤ 20))) := Lib.hid (by rw [HLI.out]; rfl)
  clear HLI
  go_enter Try.func67, Try.ntmps67
  go_wp2_with fail
  refine (HWI.out _).mono ?_
  rintro e w1 ⟨rfl, rfl⟩
  go_wp2_with fail
  go_loopw [3] (fun i wr => ∃ (k : Nat), k ≤ xs.length ∧ i = .int .i64 k ∧ Hid (rightR (prevI xs k) (xs.drop k) = rightR zeroI xs) ∧ Hid (∀ h : 0 < k ∧ k - 1 < xs.length, issueR (xs[k - 1]'h.2) = true) ∧ Hid (Lies wr w.heap.size 24 #[.slice A xs.length c]) ∧ Below w.heap.size w wr) (fun i _ => xs.length - (intOf i).toNat)
  case atStart => exact ⟨0, by omega, rfl, Lib.hid rfl, Lib.hid (fun h => absurd h.1 (by omega)), HD0, by (repeat' (first | (with_reducible exact Below.refl _ _) | (with_reducible assumption) | (with_reducible refine Below.alloc ?_ ?_ _) | (with_reducible refine Below.setCell ?_ ?_ _) | (with_reducible refine below_row ?_ ?_ _) | (with_reducible refine Below.drew ?_) | (with_reducible refine below_drewN ?_ _) | (with_reducible refine Below.trans ?_ (Below.mono (by assumption) ?_)) | (first | exact Nat.le_refl _ | omega | (simp; done) | (simp; omega) | (exact Below.size (by assumption)))))⟩
  case round =>
    obtain ⟨k, hk, rfl, HJ, HJB, HD, hb⟩ := hrel
    have hz := hb.size
    have d0 := HD.out.cell 0
    have zd := HD.out.lt
    by_cases hlt : k < xs.length
    · obtain rfl := HA.out (by omega)
      obtain ⟨q0, q1, q2, q3, q4, -⟩ := (HC.out.after hb) k hlt
      obtain ⟨e3, e4⟩ := HC.out.slices hlt
      have kl1 : (k : Int) < (xs.length : Int) := by omega
      have HST := Lib.hid ((rightR_step hlt).symm.trans HJ.out)
      have HIK := Lib.hid (HISS.out k hlt)
      generalize vi k = v1 at *
      generalize vd k = v2 at *
      obtain ⟨A1, n1, c1, rfl⟩ := e3
      obtain ⟨A2, n2, c2, rfl⟩ := e4
      have HOB : Hid (∀ bx, orderB bx xs[k] = if xs[k].d = bx.d then decide (xs[k].l = bx.l + 1) && decide (xs[k].k = bx.k) else decide (bx.d < xs[k].d) && decide (xs[k].l = 1)) := Lib.hid (fun bx => rfl)
      have HDD : Hid (∃ dx lx kx, xs[k].d = dx ∧ xs[k].l = lx ∧ xs[k].k = kx) := Lib.hid ⟨_, _, _, rfl, rfl, rfl⟩
      obtain ⟨dx, lx, kx, hdx, hlx, hkx⟩ := HDD.out
      rw [hdx] at q0 HIK HOB
      rw [hlx] at q1 HIK HOB
      rw [hkx] at q2 HIK HOB
      clear HDD hdx hlx hkx
      have LX := Lib.hid (Lies.made wr 45 #[.int .i64 dx, .int .i64 lx, .int .u8 kx, .slice A1 n1 c1, .slice A2 n2 c2])
      have HIO : Hid (∃ iok, issueR xs[k] = iok) := Lib.hid ⟨_, rfl⟩
      obtain ⟨iok, hiok⟩ := HIO.out
      rw [hiok] at HST HIK
      have HNX : Hid (iok = true → ∀ h : 0 < k + 1 ∧ k + 1 - 1 < xs.length, issueR (xs[k + 1 - 1]'h.2) = true) := Lib.hid (fun e h => by subst e; exact hiok)
      clear HIO hiok
      have HPV : Hid (∃ pv, prevI xs k = pv) := Lib.hid ⟨_, rfl⟩
      obtain ⟨pv, hpv⟩ := HPV.out
      have HPE := Lib.hid hpv
      rw [hpv] at HST
      clear hpv HPV
      go_wp2_with fail
      refine (HIK.out _ (by (repeat' (first | (with_reducible exact Below.refl _ _) | (with_reducible assumption) | (with_reducible refine Below.alloc ?_ ?_ _) | (with_reducible refine Below.setCell ?_ ?_ _) | (with_reducible refine below_row ?_ ?_ _) | (with_reducible refine Below.drew ?_) | (with_reducible refine below_drewN ?_ _) | (with_reducible refine Below.trans ?_ (Below.mono (by assumption) ?_)) | (first | exact Nat.le_refl _ | omega | (simp; done) | (simp; omega) | (exact Below.size (by assumption))))))).mono ?_
      rintro e w2 ⟨rfl, hb2⟩
      have s2 := hb2.size; try simp only [World.size_alloc, World.size_setCell, World.size_drew, setRow_size] at s2
      have HD2 := Lib.hid ((HD.out.alloc (.cells #[.int .i64 dx, .int .i64 lx, .int .u8 kx, .slice A1 n1 c1, .slice A2 n2 c2] 45)).after hb2)
      have LX2 := Lib.hid (LX.out.after hb2)
      have hbw2 : Below w.heap.size w w2 := by (repeat' (first | (with_reducible exact Below.refl _ _) | (with_reducible assumption) | (with_reducible refine Below.alloc ?_ ?_ _) | (with_reducible refine Below.setCell ?_ ?_ _) | (with_reducible refine below_row ?_ ?_ _) | (with_reducible refine Below.drew ?_) | (with_reducible refine below_drewN ?_ _) | (with_reducible refine Below.trans ?_ (Below.mono (by assumption) ?_)) | (first | exact Nat.le_refl _ | omega | (simp; done) | (simp; omega) | (exact Below.size (by assumption)))))
      clear hb2 d0 zd
      cases iok
      · have HR : Hid (listedR xs = false) := Lib.hid (by rw [HLI2.out, ← HST.out]; rfl)
        go_wp2
        go_ret
        exact ⟨ret_bool HR.out.symm, hbw2⟩
      have HNX := Lib.hid (HNX.out rfl)
      have HST2 : Hid ((orderB pv xs[k] && rightR (prevI xs (k + 1)) (xs.drop (k + 1))) = rightR zeroI xs) := Lib.hid (by have := HST.out; rwa [Bool.true_and] at this)
      have HNO : Hid (orderB pv xs[k] = false → listedR xs = false) := Lib.hid (fun h => by rw [HLI2.out, ← HST2.out, h]; rfl)
      have HYE : Hid (orderB pv xs[k] = true → rightR (prevI xs (k + 1)) (xs.drop (k + 1)) = rightR zeroI xs) := Lib.hid (fun h => by have := HST2.out; rwa [h, Bool.true_and] at this)
      have HO := Lib.hid (HOB.out pv)
      clear HST HST2 HOB
      generalize orderB pv xs[k] = ob at *
      have d0 := HD2.out.cell 0
      have zd := HD2.out.lt
      have x0 := LX2.out.cell 0
      have x1 := LX2.out.cell 1
      have x2 := LX2.out.cell 2
      have zx := LX2.out.lt
      by_cases hk0 : k = 0
      · have hkz : ¬ (0 : Int) < (k : Int) := by omega
        have hkzd : decide ((0 : Int) < (k : Int)) = false := by simpa using hkz
        have hkn : ¬ 0 < k := by omega
        have hknd : decide (0 < k) = false := by simpa using hkn
        obtain ⟨bd, bl, bk, hbd, hbl, hbk⟩ : ∃ bd bl bk : Int, bd = 0 ∧ bl = 0 ∧ bk = 0 := ⟨_, _, _, rfl, rfl, rfl⟩
        have HO2 : Hid (ob = if dx = bd then decide (lx = bl + 1) && decide (kx = bk) else decide (bd < dx) && decide (lx = 1)) := Lib.hid (by rw [HO.out, ← HPE.out, hbd, hbl, hbk, show prevI xs k = zeroI from by unfold prevI; rw [dif_neg (by omega)]]; rfl)
        clear HO
        have HO := HO2
        clear HO2
        subst hbd hbl hbk
        clear hk0
        by_cases g1 : dx < 0
        · have HR := Lib.hid (HNO.out (by rw [HO.out, if_neg (by omega), decide_eq_false (by omega)]; rfl))
          go_wp2
          go_ret
          exact ⟨ret_bool HR.out.symm, by (repeat' (first | (with_reducible exact Below.refl _ _) | (with_reducible assumption) | (with_reducible refine Below.alloc ?_ ?_ _) | (with_reducible refine Below.setCell ?_ ?_ _) | (with_reducible refine below_row ?_ ?_ _) | (with_reducible refine Below.drew ?_) | (with_reducible refine below_drewN ?_ _) | (with_reducible refine Below.trans ?_ (Below.mono (by assumption) ?_)) | (first | exact Nat.le_refl _ | omega | (simp; done) | (simp; omega) | (exact Below.size (by assumption)))))⟩
        · by_cases g2 : 0 < dx
          · by_cases g3 : lx = 1
            · have HR := Lib.hid (HYE.out (by rw [HO.out, if_neg (by omega), decide_eq_true g2, decide_eq_true g3]; rfl))
              subst g3
              go_wp2_with fail
              go_roundw
              case rel => exact ⟨k + 1, by omega, by go_num, HR, Lib.hid (HNX.out trivial), Lib.hid (HD2.out.alloc _), hbw2.alloc hbw2.size _⟩
              case measure => simp [intOf]; omega
            · have HR := Lib.hid (HNO.out (by rw [HO.out, if_neg (by omega), decide_eq_false g3, Bool.and_false]))
              have b3 : (lx != 1) = true := by simpa using g3
              clear g3
              go_wp2
              go_ret
              exact ⟨ret_bool HR.out.symm, by (repeat' (first | (with_reducible exact Below.refl _ _) | (with_reducible assumption) | (with_reducible refine Below.alloc ?_ ?_ _) | (with_reducible refine Below.setCell ?_ ?_ _) | (with_reducible refine below_row ?_ ?_ _) | (with_reducible refine Below.drew ?_) | (with_reducible refine below_drewN ?_ _) | (with_reducible refine Below.trans ?_ (Below.mono (by assumption) ?_)) | (first | exact Nat.le_refl _ | omega | (simp; done) | (simp; omega) | (exact Below.size (by assumption)))))⟩
          · have g0 : dx = 0 := by omega
            by_cases g3 : lx = 0 + 1
            · have b3 : (lx != 1) = false := by simp [g3]
              by_cases g4 : kx = 0
              · have HR := Lib.hid (HYE.out (by rw [HO.out, if_pos g0, decide_eq_true g3, decide_eq_true g4]; rfl))
                have b4 : (kx != 0) = false := by simp [g4]
                clear g3 g4 g0
                go_wp2_with fail
                go_roundw
                case rel => exact ⟨k + 1, by omega, by go_num, HR, Lib.hid (HNX.out trivial), Lib.hid (HD2.out.alloc _), hbw2.alloc hbw2.size _⟩
                case measure => simp [intOf]; omega
              · have HR := Lib.hid (HNO.out (by rw [HO.out, if_pos g0, decide_eq_false g4, Bool.and_false]))
                have b4 : (kx != 0) = true := by simp [g4]
                clear g3 g4 g0
                go_wp2
                go_ret
                exact ⟨ret_bool HR.out.symm, by (repeat' (first | (with_reducible exact Below.refl _ _) | (with_reducible assumption) | (with_reducible refine Below.alloc ?_ ?_ _) | (with_reducible refine Below.setCell ?_ ?_ _) | (with_reducible refine below_row ?_ ?_ _) | (with_reducible refine Below.drew ?_) | (with_reducible refine below_drewN ?_ _) | (with_reducible refine Below.trans ?_ (Below.mono (by assumption) ?_)) | (first | exact Nat.le_refl _ | omega | (simp; done) | (simp; omega) | (exact Below.size (by assumption)))))⟩
            · have HR := Lib.hid (HNO.out (by rw [HO.out, if_pos g0, decide_eq_false g3, Bool.false_and]))
              have b3 : (lx != 1) = true := by simpa using g3
              clear g3 g0
              go_wp2
              go_ret
              exact ⟨ret_bool HR.out.symm, by (repeat' (first | (with_reducible exact Below.refl _ _) | (with_reducible assumption) | (with_reducible refine Below.alloc ?_ ?_ _) | (with_reducible refine Below.setCell ?_ ?_ _) | (with_reducible refine below_row ?_ ?_ _) | (with_reducible refine Below.drew ?_) | (with_reducible refine below_drewN ?_ _) | (with_reducible refine Below.trans ?_ (Below.mono (by assumption) ?_)) | (first | exact Nat.le_refl _ | omega | (simp; done) | (simp; omega) | (exact Below.size (by assumption)))))⟩
      · have hkz : (0 : Int) < (k : Int) := by omega
        have hkn : 0 < k := by omega
        have hk4 : k - 1 < xs.length := by omega
        have hk1 : 1 ≤ (k : Int) := by omega
        have kl2 : (k : Int) - 1 < (xs.length : Int) := by omega
        obtain ⟨p0, p1, p2, p3, p4, -⟩ := (HC.out.after hbw2) (k - 1) hk4
        have hblk : b < w2.heap.size := World.block_lt_of_cell? w2 _ p0
        obtain ⟨e3, e4⟩ := HC.out.slices hk4
        have hbb : 0 ≤ (xs[k - 1]'hk4).l ∧ (xs[k - 1]'hk4).l ≤ 8 := by
          have h1 := HJB.out ⟨hkn, hk4⟩
          unfold issueR headR at h1
          simp only [Bool.and_eq_true] at h1
          have h2 := (namedB_iff.1 h1.1.1.1).2.1
          exact ⟨by omega, h2.2⟩
        generalize vi (k - 1) = v3 at *
        generalize vd (k - 1) = v4 at *
        obtain ⟨A3, n3, c3, rfl⟩ := e3
        obtain ⟨A4, n4, c4, rfl⟩ := e4
        have HPX : Hid (∃ bd bl bk, (xs[k - 1]'hk4).d = bd ∧ (xs[k - 1]'hk4).l = bl ∧ (xs[k - 1]'hk4).k = bk) := Lib.hid ⟨_, _, _, rfl, rfl, rfl⟩
        obtain ⟨bd, bl, bk, hbd, hbl, hbk⟩ := HPX.out
        have HO2 : Hid (ob = if dx = bd then decide (lx = bl + 1) && decide (kx = bk) else decide (bd < dx) && decide (lx = 1)) := Lib.hid (by rw [HO.out, ← HPE.out, show prevI xs k = xs[k - 1]'hk4 from by unfold prevI; rw [dif_pos ⟨by omega, hk4⟩], hbd, hbl, hbk])
        clear HO
        have HO := HO2
        clear HO2
        rw [hbd] at p0
        rw [hbl] at p1 hbb
        rw [hbk] at p2
        clear hk0 HPX hbd hbl hbk
        by_cases g1 : dx < bd
        · have HR := Lib.hid (HNO.out (by rw [HO.out, if_neg (by omega), decide_eq_false (by omega)]; rfl))
          go_wp2
          go_ret
          exact ⟨ret_bool HR.out.symm, by (repeat' (first | (with_reducible exact Below.refl _ _) | (with_reducible assumption) | (with_reducible refine Below.alloc ?_ ?_ _) | (with_reducible refine Below.setCell ?_ ?_ _) | (with_reducible refine below_row ?_ ?_ _) | (with_reducible refine Below.drew ?_) | (with_reducible refine below_drewN ?_ _) | (with_reducible refine Below.trans ?_ (Below.mono (by assumption) ?_)) | (first | exact Nat.le_refl _ | omega | (simp; done) | (simp; omega) | (exact Below.size (by assumption)))))⟩
        · by_cases g2 : bd < dx
          · by_cases g3 : lx = 1
            · have HR := Lib.hid (HYE.out (by rw [HO.out, if_neg (by omega), decide_eq_true g2, decide_eq_true g3]; rfl))
              subst g3
              go_wp2_with fail
              go_roundw
              case rel => exact ⟨k + 1, by omega, by go_num, HR, Lib.hid (HNX.out trivial), Lib.hid (HD2.out.alloc _), hbw2.alloc hbw2.size _⟩
              case measure => simp [intOf]; omega
            · have HR := Lib.hid (HNO.out (by rw [HO.out, if_neg (by omega), decide_eq_false g3, Bool.and_false]))
              have b3 : (lx != 1) = true := by simpa using g3
              clear g3
              go_wp2
              go_ret
              exact ⟨ret_bool HR.out.symm, by (repeat' (first | (with_reducible exact Below.refl _ _) | (with_reducible assumption) | (with_reducible refine Below.alloc ?_ ?_ _) | (with_reducible refine Below.setCell ?_ ?_ _) | (with_reducible refine below_row ?_ ?_ _) | (with_reducible refine Below.drew ?_) | (with_reducible refine below_drewN ?_ _) | (with_reducible refine Below.trans ?_ (Below.mono (by assumption) ?_)) | (first | exact Nat.le_refl _ | omega | (simp; done) | (simp; omega) | (exact Below.size (by assumption)))))⟩
          · have g0 : dx = bd := by omega
            by_cases g3 : lx = bl + 1
            · have b3 : (lx != bl + 1) = false := by simp [g3]
              by_cases g4 : kx = bk
              · have HR := Lib.hid (HYE.out (by rw [HO.out, if_pos g0, decide_eq_true g3, decide_eq_true g4]; rfl))
                have b4 : (kx != bk) = false := by simp [g4]
                clear g3 g4 g0
                go_wp2_with fail
                go_roundw
                case rel => exact ⟨k + 1, by omega, by go_num, HR, Lib.hid (HNX.out trivial), Lib.hid (HD2.out.alloc _), hbw2.alloc hbw2.size _⟩
                case measure => simp [intOf]; omega
              · have HR := Lib.hid (HNO.out (by rw [HO.out, if_pos g0, decide_eq_false g4, Bool.and_false]))
                have b4 : (kx != bk) = true := by simp [g4]
                clear g3 g4 g0
                go_wp2
                go_ret
                exact ⟨ret_bool HR.out.symm, by (repeat' (first | (with_reducible exact Below.refl _ _) | (with_reducible assumption) | (with_reducible refine Below.alloc ?_ ?_ _) | (with_reducible refine Below.setCell ?_ ?_ _) | (with_reducible refine below_row ?_ ?_ _) | (with_reducible refine Below.drew ?_) | (with_reducible refine below_drewN ?_ _) | (with_reducible refine Below.trans ?_ (Below.mono (by assumption) ?_)) | (first | exact Nat.le_refl _ | omega | (simp; done) | (simp; omega) | (exact Below.size (by assumption)))))⟩
            · have HR := Lib.hid (HNO.out (by rw [HO.out, if_pos g0, decide_eq_false g3, Bool.false_and]))
              have b3 : (lx != bl + 1) = true := by simp [g3]
              clear g3 g0
              go_wp2
              go_ret
              exact ⟨ret_bool HR.out.symm, by (repeat' (first | (with_reducible exact Below.refl _ _) | (with_reducible assumption) | (with_reducible refine Below.alloc ?_ ?_ _) | (with_reducible refine Below.setCell ?_ ?_ _) | (with_reducible refine below_row ?_ ?_ _) | (with_reducible refine Below.drew ?_) | (with_reducible refine below_drewN ?_ _) | (with_reducible refine Below.trans ?_ (Below.mono (by assumption) ?_)) | (first | exact Nat.le_refl _ | omega | (simp; done) | (simp; omega) | (exact Below.size (by assumption)))))⟩
    · have hke : k = xs.length := by omega
      have HRR : Hid (rightR zeroI xs = true) := Lib.hid (by rw [← HJ.out, hke, List.drop_length, rightR])
      have HLI3 : Hid (listedR xs = (completeB xs (numbersR xs) && decide ((numbersR xs).length ≤ 20))) := Lib.hid (by rw [HLI2.out, HRR.out, Bool.true_and])
      clear HJ HLI2 HISS
      go_wp2_with fail
      refine (HNU.out _ hb).mono ?_
      rintro e w2 ⟨v, rfl, hown, hb2⟩
      have HD2 := Lib.hid (HD.out.after hb2)
      have hbw2 : Below w.heap.size w w2 := by (repeat' (first | (with_reducible exact Below.refl _ _) | (with_reducible assumption) | (with_reducible refine Below.alloc ?_ ?_ _) | (with_reducible refine Below.setCell ?_ ?_ _) | (with_reducible refine below_row ?_ ?_ _) | (with_reducible refine Below.drew ?_) | (with_reducible refine below_drewN ?_ _) | (with_reducible refine Below.trans ?_ (Below.mono (by assumption) ?_)) | (first | exact Nat.le_refl _ | omega | (simp; done) | (simp; omega) | (exact Below.size (by assumption)))))
      obtain ⟨A6, c6, b6, o6, rfl, hA6, hc6⟩ := ints_of_own hown
      have HA6 := Lib.hid hA6
      have HC6 := Lib.hid hc6
      have hnl : (numbersR xs).length ≤ 1000 := Nat.le_trans (numK_le xs xs.length) hl
      have HZS : Hid (∃ zs, numbersR xs = zs) := Lib.hid ⟨_, rfl⟩
      obtain ⟨zs, hzs⟩ := HZS.out
      rw [hzs] at HA6 HC6 HLI3 hnl ⊢
      clear hA6 hc6 hown hb2 HNU HZS hzs hke
      go_wp2_with fail
      go_loopw [7] (fun i wr => ∃ (p : Nat), p ≤ xs.length ∧ i = .int .i64 p ∧ Hid (∀ q (hq : q < xs.length), q < p → ∀ j (hj : j < xs[q].items.length), decide (xs[q].items[j].1 ∈ zs) = true) ∧ Hid (Lies wr w.heap.size 24 #[.slice A xs.length c]) ∧ Below w.heap.size w wr ∧ Below w2.heap.size w2 wr) (fun i _ => xs.length - (intOf i).toNat)
      case atStart => exact ⟨0, by omega, rfl, Lib.hid (fun p hp h => by omega), HD2, hbw2, Below.refl _ _⟩
      case round =>
        obtain ⟨p, hp, rfl, HK, HD3, hb3, hb4⟩ := hrel
        have d0 := HD3.out.cell 0
        have zd := HD3.out.lt
        by_cases hlt : p < xs.length
        · obtain rfl := HA.out (by omega)
          obtain ⟨wo, rfl⟩ : ∃ wo : World, wo = wr := ⟨_, rfl⟩
          have kl1 : (p : Int) < (xs.length : Int) := by omega
          have hli := (HSM.out xs[p] (List.getElem_mem hlt)).1
          obtain ⟨Ai, ci, bi, oi, hvi, hAi, hci⟩ := (HC.out p hlt).2.2.2.2.2.2.1
          have HVI := Lib.hid hvi
          have HCI := Lib.hid hci
          have HAI := Lib.hid hAi
          clear hci hAi hvi
          obtain ⟨il, hil⟩ : ∃ il, xs[p].items = il := ⟨_, rfl⟩
          have HIL := Lib.hid hil
          rw [hil] at HVI HCI HAI hli
          clear hil
          go_wp2_with fail
          clear d0 zd
          go_loopw [8] (fun i wr => ∃ (j : Nat), j ≤ il.length ∧ i = .int .i64 j ∧ Hid (∀ q (hq : q < il.length), q < j → decide (il[q].1 ∈ zs) = true) ∧ Hid (Lies wr w.heap.size 24 #[.slice (some ⟨b, off, none⟩) xs.length c]) ∧ Below w.heap.size w wr ∧ Below w2.heap.size w2 wr) (fun i _ => il.length - (intOf i).toNat)
          case atStart => exact ⟨0, by omega, rfl, Lib.hid (fun q hq h => by omega), HD3, hb3, hb4⟩
          case round =>
            obtain ⟨j, hj, rfl, HJ2, HD5, hb5, hb6⟩ := hrel
            have d0 := HD5.out.cell 0
            have zd := HD5.out.lt
            have q3 : wr.cell? ⟨b, off + p * 5 + 3, none⟩ = some (.slice Ai il.length ci) := by rw [← HVI.out]; exact ((HC.out.after hb5) p hlt).2.2.2.1
            by_cases hlt2 : j < il.length
            · obtain rfl := HAI.out (by omega)
              have t0 := cell_keep hb5 (HCI.out j hlt2).1
              have kl2 : (j : Int) < (il.length : Int) := by omega
              have HXJ : Hid (∃ e1 : Int, il[j].1 = e1) := Lib.hid ⟨_, rfl⟩
              obtain ⟨e1, he⟩ := HXJ.out
              have HE := Lib.hid he
              rw [he] at t0
              clear he HXJ
              have HIX := Lib.hid (rIndex_any A6 c6 b6 o6 zs e1 wr HA6.out (by omega) (fun i h => cell_keep hb6 (HC6.out i h)))
              by_cases hm : e1 ∈ zs
              · have hge : ¬ idxL zs e1 < 0 := by have := idxL_mem.2 hm; omega
                have hged : decide (idxL zs e1 < 0) = false := by simpa using hge
                have HM := Lib.hid hm
                generalize idxL zs e1 = ix at *
                clear hm
                go_wp2_with fail
                refine HIX.out.mono ?_
                rintro e w9 ⟨rfl, rfl⟩
                go_wp2_with fail
                go_roundw
                case rel =>
                  refine ⟨j + 1, by omega, by go_num, Lib.hid (fun q hq h => ?_), HD5, hb5, hb6⟩
                  by_cases e : q = j
                  · subst e; rw [HE.out]; exact decide_eq_true HM.out
                  · exact HJ2.out q hq (by omega)
                case measure => simp [intOf]; omega
              · have hge : idxL zs e1 < 0 := by
                  have := idxL_mem (l := zs) (n := e1)
                  by_cases h : 0 ≤ idxL zs e1
                  · exact absurd (this.1 h) hm
                  · omega
                have HR : Hid (listedR xs = false) := Lib.hid (by rw [HLI3.out, completeB_no hlt (j := j) (by rw [HIL.out]; exact hlt2) (by simp only [HIL.out, HE.out]; exact decide_eq_false hm)]; rfl)
                generalize idxL zs e1 = ix at *
                clear hm
                go_wp2_with fail
                refine HIX.out.mono ?_
                rintro e w9 ⟨rfl, rfl⟩
                go_wp2
                go_ret
                exact ⟨ret_bool HR.out.symm, hb5⟩
            · go_wp2_with fail
              go_roundw
              case rel =>
                refine ⟨p + 1, by omega, by go_num, Lib.hid (fun q hq h => ?_), HD5, hb5, hb6⟩
                by_cases e : q = p
                · subst e
                  intro j' hj'
                  have hjl : j' < il.length := by rw [← HIL.out]; exact hj'
                  have := HJ2.out j' hjl (by omega)
                  simp only [HIL.out]
                  exact this
                · exact HK.out q hq (by omega)
              case measure => simp [intOf]; omega
        · have HCB : Hid (completeB xs zs = true) := Lib.hid (completeB_yes (xs := xs) (zs := zs) (fun q hq => HK.out q hq (by omega)))
          have HLI4 : Hid (listedR xs = decide (zs.length ≤ 20)) := Lib.hid (by rw [HLI3.out, HCB.out, Bool.true_and])
          clear HLI3
          by_cases h20 : zs.length ≤ 20
          · have h20' : (zs.length : Int) ≤ 20 := by omega
            have HR : Hid (listedR xs = true) := Lib.hid (by rw [HLI4.out, decide_eq_true h20])
            go_wp2
            go_ret
            exact ⟨ret_bool HR.out.symm, hb3⟩
          · have h20' : ¬ (zs.length : Int) ≤ 20 := by omega
            have HR : Hid (listedR xs = false) := Lib.hid (by rw [HLI4.out, decide_eq_false h20])
            go_wp2
            go_ret
            exact ⟨ret_bool HR.out.symm, hb3⟩
end Go.Proofs.Ytngaepgepcnhkaa
