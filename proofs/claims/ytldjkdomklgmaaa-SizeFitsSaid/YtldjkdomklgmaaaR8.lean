/- Meet in every case; the reference: Meet, Same. -/
import Derived.Test.YtldjkdomklgmaaaR1
import Derived.Test.YtldjkdomklgmaaaV1
import Derived.StillTailTactics
namespace Go.Proofs.Ytldjkdomklgmaaa
set_option linter.unusedVariables false
set_option linter.unusedSimpArgs false
open Go.RowKit

set_option maxHeartbeats 1000000 in
theorem rMeet_many (A : Option Addr) (k c : Nat) (w : World) (hk : 20 < k) :
    Calls Try.prog 20 #[.slice A k c] w (GivesS ((0, 0), 4) w) := by
  have hlen : (20 : Int) < (k : Int) := by omega
  go_enter Try.func20, Try.ntmps20
  go_wp2_with fail
  refine bodyPost_ret (v := .tuple #[.agg #[.int .i64 0, .int .i64 0], .int .i64 4]) (by simp [results, Try.results20, go_sem]) rfl ⟨rfl, ?_⟩
  (repeat' (first | (with_reducible exact Below.refl _ _) | (with_reducible assumption) | (with_reducible refine Below.alloc ?_ ?_ _) | (with_reducible refine Below.setCell ?_ ?_ _) | (with_reducible refine below_row ?_ ?_ _) | (with_reducible refine Below.drew ?_) | (with_reducible refine below_drewN ?_ _) | (with_reducible refine Below.trans ?_ (Below.mono (by assumption) ?_)) | (first | exact Nat.le_refl _ | omega | (simp; done) | (simp; omega))))
set_option maxHeartbeats 2000000 in
theorem rMeet_bad (b off : Nat) (ds : List D3) (c : Nat) (w : World) (hl : ds.length ≤ 20) (hc : cellsD w b off ds) (hb : badD ds = true) :
    Calls Try.prog 20 #[.slice (some ⟨b, off, none⟩) ds.length c] w (GivesS ((0, 0), 10) w) := by
  have hlen : ((ds.length : Nat) : Int) ≤ 20 := by omega
  have h20 : decide ((20 : Int) < (ds.length : Int)) = false := by simp; omega
  have HD := Lib.hid (fun n l u W => rDim_any n l u W)
  have HC := Lib.hid hc
  have HB := Lib.hid hb
  clear hc hb
  go_enter Try.func20, Try.ntmps20
  go_wp2_with fail
  go_loopw [4] (fun i wr => ∃ (k : Nat), k ≤ ds.length ∧ i = .int .i64 k ∧ Hid (∀ j (hj : j < ds.length), j < k → okD ds[j].1 ds[j].2.1 ds[j].2.2 = true) ∧ Lies wr w.heap.size 38 #[.int .i64 0, .int .i64 0] ∧ Below w.heap.size w wr) (fun i _ => ds.length - (intOf i).toNat)
  case atStart => exact ⟨0, by omega, rfl, Lib.hid (fun j hj h => by omega), Lies.made _ _ _, by (repeat' (first | (with_reducible exact Below.refl _ _) | (with_reducible assumption) | (with_reducible refine Below.alloc ?_ ?_ _) | (with_reducible refine Below.setCell ?_ ?_ _) | (with_reducible refine below_row ?_ ?_ _) | (with_reducible refine Below.drew ?_) | (with_reducible refine below_drewN ?_ _) | (with_reducible refine Below.trans ?_ (Below.mono (by assumption) ?_)) | (first | exact Nat.le_refl _ | omega | (simp; done) | (simp; omega))))⟩
  case round =>
    obtain ⟨k, hk, rfl, hj, hL, hbr⟩ := hrel
    have HL := Lib.hid hL
    have zL := hL.lt
    have zr := hbr.size
    clear hL
    by_cases hlt : k < ds.length
    · obtain ⟨q0, q1, q2⟩ := HC.out k hlt
      have hbl : b < w.heap.size := World.block_lt_of_cell? w _ q0
      have p0 := (hbr.cell (p := ⟨b, off + k * 3, none⟩) hbl).trans q0
      have p1 := (hbr.cell (p := ⟨b, off + k * 3 + 1, none⟩) hbl).trans q1
      have p2 := (hbr.cell (p := ⟨b, off + k * 3 + 2, none⟩) hbl).trans q2
      clear q0 q1 q2
      obtain ⟨d, hd⟩ : ∃ d, ds[k] = d := ⟨_, rfl⟩
      rw [hd] at p0 p1 p2
      obtain ⟨dn, dl, du⟩ := d
      simp only at p0 p1 p2
      have HK := Lib.hid (fun W => HD.out dn dl du W)
      by_cases ho : okD dn dl du = true
      · rw [ho] at HK
        have HJ := Lib.hid (show ∀ j (hj : j < ds.length), j < k + 1 → okD ds[j].1 ds[j].2.1 ds[j].2.2 = true from fun j hj' h => by
          by_cases e : j = k
          · subst e; rw [hd]; exact ho
          · exact hj.out j hj' (by omega))
        clear hj hd ho
        go_wp2_with fail
        refine (HK.out _).mono ?_
        rintro e w2 ⟨rfl, hb2⟩
        have s2 := hb2.size
        go_wp2_with fail
        go_roundw
        case rel => exact ⟨k + 1, by omega, by go_num, HJ, HL.out.after hb2, hbr.trans (hb2.mono zr)⟩
        case measure => simp [intOf]; omega
      · have ho' : okD dn dl du = false := by simpa using ho
        rw [ho'] at HK
        clear hj hd ho ho'
        go_wp2_with fail
        refine (HK.out _).mono ?_
        rintro e w2 ⟨rfl, hb2⟩
        have s2 := hb2.size
        have HR := Lib.hid (HL.out.after hb2)
        have zR := HR.out.lt
        have hbx : Below w.heap.size w w2 := hbr.trans (hb2.mono zr)
        obtain ⟨r0, r1, f0, f1⟩ := HR.out.c2
        go_wp2_with fail
        refine bodyPost_ret (results_cell_tmp Try.results20 _ _ w.heap.size _ _ _ rfl ((HR.out.store 0 _).store 1 _) Try.underlying38 rfl (by kernel_rfl)) rfl ⟨rfl, ?_⟩
        (repeat' (first | (with_reducible exact Below.refl _ _) | (with_reducible assumption) | (with_reducible refine Below.alloc ?_ ?_ _) | (with_reducible refine Below.setCell ?_ ?_ _) | (with_reducible refine below_row ?_ ?_ _) | (with_reducible refine Below.drew ?_) | (with_reducible refine below_drewN ?_ _) | (with_reducible refine Below.trans ?_ (Below.mono (by assumption) ?_)) | (first | exact Nat.le_refl _ | omega | (simp; done) | (simp; omega))))
    · exfalso
      have hT := badD_no (fun j hj' => hj.out j hj' (by omega))
      rw [HB.out] at hT
      cases hT
set_option maxHeartbeats 4000000 in
set_option maxRecDepth 100000 in
theorem rMeet_go (A : Option Addr) (b off : Nat) (ds : List D3) (c : Nat) (w : World) (hA : 0 < ds.length → A = some ⟨b, off, none⟩) (hl : ds.length ≤ 20) (hc : cellsD w b off ds) (hb : badD ds = false) :
    Calls Try.prog 20 #[.slice A ds.length c] w (GivesS (if ds.length = 0 then ((0, 0), 6) else if (meetS 0 1000000000 ds).2 < (meetS 0 1000000000 ds).1 then ((0, 0), 6) else (meetS 0 1000000000 ds, 0)) w) := by
  have hlen : ((ds.length : Nat) : Int) ≤ 20 := by omega
  have h20 : decide ((20 : Int) < (ds.length : Int)) = false := by simp; omega
  have HD := Lib.hid (fun n l u W => rDim_any n l u W)
  have HC := Lib.hid hc
  have HB := Lib.hid (fun j (hj : j < ds.length) => show okD ds[j].1 ds[j].2.1 ds[j].2.2 = true from by
    by_cases h : okD ds[j].1 ds[j].2.1 ds[j].2.2 = true
    · exact h
    · have := badD_yes hj (by simpa using h); rw [hb] at this; cases this)
  have HA := Lib.hid hA
  generalize hR : (if ds.length = 0 then (((0, 0), 6) : (Int × Int) × Int) else if (meetS 0 1000000000 ds).2 < (meetS 0 1000000000 ds).1 then ((0, 0), 6) else (meetS 0 1000000000 ds, 0)) = R
  have HR0 := Lib.hid hR
  clear hc hb hA hR
  go_enter Try.func20, Try.ntmps20
  go_wp2_with fail
  go_loopw [4] (fun i wr => ∃ (k : Nat), k ≤ ds.length ∧ i = .int .i64 k ∧ Lies wr w.heap.size 38 #[.int .i64 0, .int .i64 0] ∧ Below w.heap.size w wr) (fun i _ => ds.length - (intOf i).toNat)
  case atStart => exact ⟨0, by omega, rfl, Lies.made _ _ _, by (repeat' (first | (with_reducible exact Below.refl _ _) | (with_reducible assumption) | (with_reducible refine Below.alloc ?_ ?_ _) | (with_reducible refine Below.setCell ?_ ?_ _) | (with_reducible refine below_row ?_ ?_ _) | (with_reducible refine Below.drew ?_) | (with_reducible refine below_drewN ?_ _) | (with_reducible refine Below.trans ?_ (Below.mono (by assumption) ?_)) | (first | exact Nat.le_refl _ | omega | (simp; done) | (simp; omega))))⟩
  case round =>
    obtain ⟨k, hk, rfl, hL, hbr⟩ := hrel
    have HL := Lib.hid hL
    have zL := hL.lt
    have zr := hbr.size
    clear hL
    by_cases hlt : k < ds.length
    · obtain ⟨q0, q1, q2⟩ := HC.out k hlt
      have hbl : b < w.heap.size := World.block_lt_of_cell? w _ q0
      have p0 := (hbr.cell (p := ⟨b, off + k * 3, none⟩) hbl).trans q0
      have p1 := (hbr.cell (p := ⟨b, off + k * 3 + 1, none⟩) hbl).trans q1
      have p2 := (hbr.cell (p := ⟨b, off + k * 3 + 2, none⟩) hbl).trans q2
      clear q0 q1 q2
      obtain rfl := HA.out (by omega)
      have ho := HB.out k hlt
      generalize ds[k] = d at *
      obtain ⟨dn, dl, du⟩ := d
      simp only at p0 p1 p2 ho
      have HK := Lib.hid (fun W => HD.out dn dl du W)
      rw [ho] at HK
      clear ho
      go_wp2_with fail
      refine (HK.out _).mono ?_
      rintro e w2 ⟨rfl, hb2⟩
      have s2 := hb2.size
      go_wp2_with fail
      go_roundw
      case rel => exact ⟨k + 1, by omega, by go_num, HL.out.after hb2, hbr.trans (hb2.mono zr)⟩
      case measure => simp [intOf]; omega
    · have hke : k = ds.length := by omega
      subst hke
      go_wp2_with fail
      generalize wr = w5 at *
      go_loopw [6] (fun i wv => ∃ (k : Nat) (lo hi : Int), k ≤ ds.length ∧ i = .int .i64 k ∧ Hid (meetS lo hi (ds.drop k) = meetS 0 1000000000 ds) ∧ Lies wv w5.heap.size 38 #[.int .i64 lo, .int .i64 hi] ∧ Lies wv w.heap.size 38 #[.int .i64 0, .int .i64 0] ∧ Below w.heap.size w wv) (fun i _ => ds.length - (intOf i).toNat)
      case atStart => exact ⟨0, 0, 1000000000, by omega, rfl, Lib.hid rfl, Lies.made _ _ _, HL.out.alloc _, hbr.alloc zr _⟩
      case round =>
        clear HL hk hlt hbr
        obtain ⟨k, lo, hi, hk, rfl, hm, hL5, hZ, hbr⟩ := hrel
        have H5 := Lib.hid hL5
        have HZ := Lib.hid hZ
        have z5 := hL5.lt
        have zZ := hZ.lt
        have zv := hbr.size
        obtain ⟨l0, l1, m0, m1⟩ := hL5.c2
        obtain ⟨r0, r1, f0, f1⟩ := hZ.c2
        clear hL5 hZ
        by_cases hlt : k < ds.length
        · obtain ⟨q0, q1, q2⟩ := HC.out k hlt
          have hbl : b < w.heap.size := World.block_lt_of_cell? w _ q0
          have p0 := (hbr.cell (p := ⟨b, off + k * 3, none⟩) hbl).trans q0
          have p1 := (hbr.cell (p := ⟨b, off + k * 3 + 1, none⟩) hbl).trans q1
          have p2 := (hbr.cell (p := ⟨b, off + k * 3 + 2, none⟩) hbl).trans q2
          obtain rfl := HA.out (by omega)
          have hdrop : ds.drop k = ds[k] :: ds.drop (k + 1) := List.drop_eq_getElem_cons hlt
          have HM := Lib.hid (show meetS (if lo < ds[k].2.1 then ds[k].2.1 else lo) (if ds[k].2.2 < hi then ds[k].2.2 else hi) (ds.drop (k + 1)) = meetS 0 1000000000 ds by
            have := hm.out
            rw [hdrop] at this
            exact this)
          clear q0 q1 q2 hdrop hm r0 r1 f0 f1
          generalize ds[k] = d at *
          obtain ⟨dn, dl, du⟩ := d
          simp only at p0 p1 p2 HM
          by_cases x : lo < dl <;> by_cases y : du < hi
          all_goals
            first | rw [if_pos x] at HM | rw [if_neg x] at HM
            first | rw [if_pos y] at HM | rw [if_neg y] at HM
            go_wp2_with fail
            go_still_tail 17, (by kernel_rfl)
            go_wp2_with fail
            go_roundw
            case rel =>
              refine ⟨k + 1, _, _, by omega, by go_num, HM, ((H5.out.store 0 _).store 1 _), ((HZ.out.other (p := ⟨w5.heap.size, 0, none⟩) (by simp only; omega) _).other (p := ⟨w5.heap.size, 1, none⟩) (by simp only; omega) _), ?_⟩
              (repeat' (first | (with_reducible exact Below.refl _ _) | (with_reducible assumption) | (with_reducible refine Below.alloc ?_ ?_ _) | (with_reducible refine Below.setCell ?_ ?_ _) | (with_reducible refine below_row ?_ ?_ _) | (with_reducible refine Below.drew ?_) | (with_reducible refine below_drewN ?_ _) | (with_reducible refine Below.trans ?_ (Below.mono (by assumption) ?_)) | (first | exact Nat.le_refl _ | omega | (simp; done) | (simp; omega))))
            case measure => simp [intOf]; omega
        · have hke : k = ds.length := by omega
          subst hke
          have HM := Lib.hid (show (lo, hi) = meetS 0 1000000000 ds by
            have := hm.out
            rw [List.drop_length] at this
            exact this)
          have hR := HR0.out
          rw [← HM.out] at hR
          clear hm HM HR0 HC HB HD HA
          simp only at hR
          by_cases e0 : ds.length = 0
          · rw [if_pos e0] at hR
            subst hR
            have e0' : ((ds.length : Int) == 0) = true := by rw [beq_iff_eq]; omega
            go_wp2_with fail
            refine bodyPost_ret (results_cell_tmp Try.results20 _ _ w.heap.size _ _ _ rfl ((HZ.out.store 0 _).store 1 _) Try.underlying38 rfl (by kernel_rfl)) rfl ⟨rfl, ?_⟩
            (repeat' (first | (with_reducible exact Below.refl _ _) | (with_reducible assumption) | (with_reducible refine Below.alloc ?_ ?_ _) | (with_reducible refine Below.setCell ?_ ?_ _) | (with_reducible refine below_row ?_ ?_ _) | (with_reducible refine Below.drew ?_) | (with_reducible refine below_drewN ?_ _) | (with_reducible refine Below.trans ?_ (Below.mono (by assumption) ?_)) | (first | exact Nat.le_refl _ | omega | (simp; done) | (simp; omega))))
          · rw [if_neg e0] at hR
            have e0' : ((ds.length : Int) == 0) = false := by rw [beq_eq_false_iff_ne]; omega
            by_cases x : hi < lo
            · rw [if_pos x] at hR
              subst hR
              go_wp2_with fail
              refine bodyPost_ret (results_cell_tmp Try.results20 _ _ w.heap.size _ _ _ rfl ((HZ.out.store 0 _).store 1 _) Try.underlying38 rfl (by kernel_rfl)) rfl ⟨rfl, ?_⟩
              (repeat' (first | (with_reducible exact Below.refl _ _) | (with_reducible assumption) | (with_reducible refine Below.alloc ?_ ?_ _) | (with_reducible refine Below.setCell ?_ ?_ _) | (with_reducible refine below_row ?_ ?_ _) | (with_reducible refine Below.drew ?_) | (with_reducible refine below_drewN ?_ _) | (with_reducible refine Below.trans ?_ (Below.mono (by assumption) ?_)) | (first | exact Nat.le_refl _ | omega | (simp; done) | (simp; omega))))
            · rw [if_neg x] at hR
              subst hR
              go_wp2_with fail
              refine bodyPost_ret (results_cell_tmp Try.results20 _ _ w.heap.size _ _ _ rfl ((HZ.out.store 0 _).store 1 _) Try.underlying38 rfl (by kernel_rfl)) rfl ⟨rfl, ?_⟩
              (repeat' (first | (with_reducible exact Below.refl _ _) | (with_reducible assumption) | (with_reducible refine Below.alloc ?_ ?_ _) | (with_reducible refine Below.setCell ?_ ?_ _) | (with_reducible refine below_row ?_ ?_ _) | (with_reducible refine Below.drew ?_) | (with_reducible refine below_drewN ?_ _) | (with_reducible refine Below.trans ?_ (Below.mono (by assumption) ?_)) | (first | exact Nat.le_refl _ | omega | (simp; done) | (simp; omega))))
end Go.Proofs.Ytldjkdomklgmaaa
