/- The walks of package size: scalesOf. -/
import Derived.Test.YtjejjeomknkglaaDoorB4
import Derived.Deep.AppendLies
namespace Go.Proofs.YtjejjeomknkglaaDoor
set_option linter.unusedVariables false
set_option linter.unusedSimpArgs false
open Go.RowKit

theorem own_ne {w : World} {base : Nat} {e t : TypeId} {size n g : Nat} {v : Value} {xs : List Value} {cs : Array Value} (h : w.ownsRow base e size v n xs) (hg : Lies w g t cs) (hne : e ≠ t) : v.ownBlock ≠ some g := by
  rcases h.2 with ⟨rfl, _⟩ | ⟨g', cap, cur, rfl, _, hh, _⟩
  · simp [Value.ownBlock]
  · intro he
    obtain rfl : g' = g := by simpa [Value.ownBlock] using he
    have h2 := hg
    unfold Lies at h2
    rw [hh] at h2
    injection h2 with h2
    injection h2 with _ ht
    exact hne ht

theorem own_after {w w' : World} {base : Nat} {e : TypeId} {size n : Nat} {v : Value} {xs : List Value} (h : w.ownsRow base e size v n xs) (hb : Below w.heap.size w w') : w'.ownsRow base e size v n xs := by
  refine ⟨h.1, ?_⟩
  rcases h.2 with h0 | ⟨g, cap, cur, hv, hg, hh, hr⟩
  · exact .inl h0
  · have hlt : g < w.heap.size := (Array.getElem?_eq_some_iff.1 hh).1
    exact .inr ⟨g, cap, cur, hv, hg, (hb.block g hlt).trans hh, hr⟩

/-- The cells of the scale of a unit; its step. -/
def scCells (u : Int) (p : Nat × Nat) : List Value := if u = 1 then [.int .u8 1, .int .i64 100, .int .i64 3, .string (⟨#[109, 109]⟩), .func (.func 57) #[] #[.pointer (some ⟨p.1, 0, none⟩)], .func (.func 58) #[] #[.pointer (some ⟨p.1, 0, none⟩)], .func (.func 59) #[] #[.pointer (some ⟨p.2, 0, none⟩), .pointer (some ⟨p.1, 0, none⟩)]] else [.int .u8 2, .int .i64 254, .int .i64 4, .string (⟨#[105, 110]⟩), .func (.func 57) #[] #[.pointer (some ⟨p.1, 0, none⟩)], .func (.func 58) #[] #[.pointer (some ⟨p.1, 0, none⟩)], .func (.func 59) #[] #[.pointer (some ⟨p.2, 0, none⟩), .pointer (some ⟨p.1, 0, none⟩)]]
def stepU (u : Int) : Int := if u = 1 then 100 else 254
theorem stepU_or (u : Int) : stepU u = 100 ∨ stepU u = 254 := by unfold stepU; split <;> simp
def allCells : List Int → List (Nat × Nat) → List Value
  | u :: us, p :: bs => scCells u p ++ allCells us bs
  | _, _ => []
/-- What the functions of some scales have captured. -/
def ScL (w : World) (base : Nat) : List Int → List (Nat × Nat) → Prop
  | [], [] => True
  | u :: us, p :: bs => SOk w base (stepU u) p.1 p.2 ∧ ScL w base us bs
  | _, _ => False
theorem scCells_length (u : Int) (p : Nat × Nat) : (scCells u p).length = 7 := by unfold scCells; split <;> rfl
theorem scCells_one (u : Int) (p : Nat × Nat) : ∀ x ∈ scCells u p, x.oneCell' = true := by
  unfold scCells
  split <;> simp [Value.oneCell']
theorem ScL.map {w w' : World} {base : Nat} (hm : ∀ st b1 b2, SOk w base st b1 b2 → SOk w' base st b1 b2) : ∀ {us : List Int} {bs : List (Nat × Nat)}, ScL w base us bs → ScL w' base us bs
  | [], [], _ => trivial
  | _ :: _, _ :: _, h => ⟨hm _ _ _ h.1, ScL.map hm h.2⟩
  | [], _ :: _, h => h.elim
  | _ :: _, [], h => h.elim
theorem ScL.after {w w' : World} {base : Nat} {us : List Int} {bs : List (Nat × Nat)} (h : ScL w base us bs) (hb : Below w.heap.size w w') : ScL w' base us bs := h.map fun _ _ _ o => o.after hb
theorem ScL.snoc {w : World} {base : Nat} {u : Int} {p : Nat × Nat} (ho : SOk w base (stepU u) p.1 p.2) : ∀ {us : List Int} {bs : List (Nat × Nat)}, ScL w base us bs → ScL w base (us ++ [u]) (bs ++ [p])
  | [], [], _ => ⟨ho, trivial⟩
  | _ :: _, _ :: _, h => ⟨h.1, ScL.snoc ho h.2⟩
  | [], _ :: _, h => h.elim
  | _ :: _, [], h => h.elim
theorem allCells_snoc {w : World} {base : Nat} {u : Int} {p : Nat × Nat} : ∀ {us : List Int} {bs : List (Nat × Nat)}, ScL w base us bs → allCells (us ++ [u]) (bs ++ [p]) = allCells us bs ++ scCells u p
  | [], [], _ => by simp [allCells]
  | a :: us, b :: bs, h => by
    have e := allCells_snoc (u := u) (p := p) h.2
    show scCells a b ++ allCells (us ++ [u]) (bs ++ [p]) = (scCells a b ++ allCells us bs) ++ scCells u p
    rw [e, List.append_assoc]
  | [], _ :: _, h => h.elim
  | _ :: _, [], h => h.elim
theorem SOk.grownOwn {w w' : World} {base B : Nat} {st : Int} {b1 b2 : Nat} {e : TypeId} {size n : Nat} {v : Value} {xs : List Value} (h : SOk w B st b1 b2) (ho : w.ownsRow base e size v n xs) (h1 : e ≠ 3) (h2 : e ≠ 42) (hg : w.grownBy w' v.ownBlock) : SOk w' B st b1 b2 :=
  h.grown hg (own_ne ho h.2.2.1 h1) (own_ne ho h.2.2.2 h2)
theorem ScL.grown {w w' : World} {base : Nat} {e : TypeId} {size n : Nat} {v : Value} {xs : List Value} {us : List Int} {bs : List (Nat × Nat)} (h : ScL w base us bs) (ho : w.ownsRow base e size v n xs) (h1 : e ≠ 3) (h2 : e ≠ 42) (hg : w.grownBy w' v.ownBlock) : ScL w' base us bs :=
  h.map fun _ _ _ o => o.grown hg (own_ne ho o.2.2.1 h1) (own_ne ho o.2.2.2 h2)

/-- The units of a list; all of them are units. -/
def cellsU (w : World) (b off : Nat) (us : List Int) : Prop := ∀ i (h : i < us.length), w.cell? ⟨b, off + i, none⟩ = some (.int .u8 (us[i]))
def unitB (u : Int) : Bool := decide (u = 1 ∨ u = 2)
def Scales (us : List Int) (w : World) (e : Ending) (w' : World) : Prop :=
  ∃ v bs, e = .returned (.tuple #[v, .int .i64 0]) ∧ w'.ownsRow w.heap.size 44 7 v us.length (allCells us bs) ∧ ScL w' w.heap.size us bs ∧ Below w.heap.size w w'

def allU (us : List Int) : Bool := us.all unitB
def ScalesR (us : List Int) (w : World) (e : Ending) (w' : World) : Prop :=
  (allU us = true ∧ Scales us w e w') ∨ (allU us = false ∧ e = .returned (.tuple #[.slice none 0 0, .int .i64 11]) ∧ Below w.heap.size w w')
theorem allU_yes {us : List Int} (h : ∀ u ∈ us, u = 1 ∨ u = 2) : allU us = true := by
  unfold allU; rw [List.all_eq_true]; intro u hu; simpa [unitB] using h u hu
theorem allU_no {us : List Int} {k : Nat} (hk : k < us.length) (h : ¬ (us[k] = 1 ∨ us[k] = 2)) : allU us = false := by
  unfold allU; rw [List.all_eq_false]; exact ⟨us[k], List.getElem_mem hk, by simpa [unitB] using h⟩

theorem Tryd.infoSc : (Tryd.prog.info? 44).map (fun i => (i.zero, i.size, i.bytes)) = some (some (.agg #[.int .u8 0, .int .i64 0, .int .i64 0, .string ⟨#[]⟩, .nilFunc, .nilFunc, .nilFunc]), 7, 64) := by kernel_rfl

set_option maxRecDepth 100000 in
set_option maxHeartbeats 2000000 in
theorem scalesOf_any (A : Option Addr) (b off : Nat) (us : List Int) (c : Nat) (w : World) (hA : 0 < us.length → A = some ⟨b, off, none⟩) (hl : us.length ≤ 1000) (hc : cellsU w b off us) :
    Calls Tryd.prog 53 #[.slice A us.length c] w (ScalesR us w) := by
  have HC := Lib.hid hc; clear hc
  have HA := Lib.hid hA; clear hA
  obtain ⟨i0, hi, hz0, hz1, hz2⟩ := info_parts Tryd.infoSc
  go_enter Tryd.func53, Tryd.ntmps53
  go_wp2_with fail
  go_loopw [4, 11] (fun v i wr => ∃ (k : Nat) (bs : List (Nat × Nat)), k ≤ us.length ∧ i = .int .i64 k ∧ wr.ownsRow w.heap.size 44 7 v k (allCells (us.take k) bs) ∧ Hid (∀ u ∈ us.take k, u = 1 ∨ u = 2) ∧ ScL wr w.heap.size (us.take k) bs ∧ Below w.heap.size w wr) (fun _ i _ => us.length - (intOf i).toNat)
  case atStart => exact ⟨0, [], by omega, rfl, World.ownsRow_nil _ _ _ _, Lib.hid (by simp), trivial, Below.refl _ _⟩
  case round =>
    obtain ⟨k, bs, hk, rfl, hown, HV, hS, hb⟩ := hrel
    have hz := hb.size
    by_cases hlt : k < us.length
    · obtain rfl := HA.out (by omega)
      have q0 := HC.out k hlt
      have hbl : b < w.heap.size := World.block_lt_of_cell? w _ q0
      have r0 := (hb.cell (p := ⟨b, off + k, none⟩) hbl).trans q0
      have ht : us.take (k + 1) = us.take k ++ [us[k]] := by rw [List.take_succ_eq_append_getElem hlt]
      have HT := Lib.hid ht
      clear ht q0
      generalize hd : us[k] = d at *
      have Hd := Lib.hid hd; clear hd
      have HO := Lib.hid hown; clear hown
      have HS := Lib.hid hS; clear hS
      have hu : d = 1 ∨ d = 2 ∨ ¬ (d = 1 ∨ d = 2) := by omega
      rcases hu with rfl | rfl | hu
      · go_wp2_with fail
        refine (scaleOf_1 _).mono ?_
        rintro e w1 ⟨b1, b2, rfl, ho1, hb1⟩
        have s1 := hb1.size; try simp only [World.size_alloc, World.size_setCell, World.size_drew, setRow_size] at s1
        have HO1 := Lib.hid (ho1.from_ hz); clear ho1
        have HW := Lib.hid (own_after HO.out hb1)
        have HS1 := Lib.hid (HS.out.after hb1)
        have hbw := hb.trans (hb1.mono hz)
        go_wp2_with (at_builtin; refine wpList_append_own _ rfl _ _ 89 rfl w.heap.size 44 i0 (.agg #[.int .u8 0, .int .i64 0, .int .i64 0, .string ⟨#[]⟩, .nilFunc, .nilFunc, .nilFunc]) 7 64 Tryd.underlying89 hi hz0 hz1 hz2 rfl (by decide) _ _ _ rfl ((HW.out.alloc _).alloc _) ⟨w1.heap.size + 1, 0, none⟩ 1 1 [.int .u8 1, .int .i64 100, .int .i64 3, .string (⟨#[109, 109]⟩), .func (.func 57) #[] #[.pointer (some ⟨b1, 0, none⟩)], .func (.func 58) #[] #[.pointer (some ⟨b1, 0, none⟩)], .func (.func 59) #[] #[.pointer (some ⟨b2, 0, none⟩), .pointer (some ⟨b1, 0, none⟩)]] rfl rfl (World.news_of_block (cs := #[.int .u8 1, .int .i64 100, .int .i64 3, .string (⟨#[109, 109]⟩), .func (.func 57) #[] #[.pointer (some ⟨b1, 0, none⟩)], .func (.func 58) #[] #[.pointer (some ⟨b1, 0, none⟩)], .func (.func 59) #[] #[.pointer (some ⟨b2, 0, none⟩), .pointer (some ⟨b1, 0, none⟩)]]) (t := 44) (fr := (0, 0)) (Lies.new (by simp))) (by simp [Value.oneCell']) (by unfold maxLen; omega) (by omega) (by simp; omega) ?_; intro v' w2 hown2 hgrow2 _)
        go_roundw
        case rel =>
          have h2 := ((HS1.out.after ((Below.refl _ _).alloc (Nat.le_refl _) _)).after ((Below.refl _ _).alloc (Nat.le_refl _) _)).grown ((HW.out.alloc _).alloc _) (by decide) (by decide) hgrow2
          have o2 := ((HO1.out.alloc _).alloc _).grownOwn ((HW.out.alloc _).alloc _) (by decide) (by decide) hgrow2
          refine ⟨k + 1, bs ++ [(b1, b2)], by omega, by go_num, ?_, ?_, ?_, ?_⟩
          · rw [HT.out, allCells_snoc HS.out]; exact hown2
          · refine Lib.hid ?_; rw [HT.out]; intro u hu; rcases List.mem_append.1 hu with hu | hu; · exact HV.out u hu
            · simp at hu; omega
          · rw [HT.out]; exact h2.snoc o2
          · exact Below.grown ((hbw.alloc (by omega) _).alloc (by simp; omega) _) hgrow2 (by simp; omega) (fun r e => (HO.out.lt r e).1)
        case measure => simp [intOf]; omega
      · go_wp2_with fail
        refine (scaleOf_2 _).mono ?_
        rintro e w1 ⟨b1, b2, rfl, ho1, hb1⟩
        have s1 := hb1.size; try simp only [World.size_alloc, World.size_setCell, World.size_drew, setRow_size] at s1
        have HO1 := Lib.hid (ho1.from_ hz); clear ho1
        have HW := Lib.hid (own_after HO.out hb1)
        have HS1 := Lib.hid (HS.out.after hb1)
        have hbw := hb.trans (hb1.mono hz)
        go_wp2_with (at_builtin; refine wpList_append_own _ rfl _ _ 89 rfl w.heap.size 44 i0 (.agg #[.int .u8 0, .int .i64 0, .int .i64 0, .string ⟨#[]⟩, .nilFunc, .nilFunc, .nilFunc]) 7 64 Tryd.underlying89 hi hz0 hz1 hz2 rfl (by decide) _ _ _ rfl ((HW.out.alloc _).alloc _) ⟨w1.heap.size + 1, 0, none⟩ 1 1 [.int .u8 2, .int .i64 254, .int .i64 4, .string (⟨#[105, 110]⟩), .func (.func 57) #[] #[.pointer (some ⟨b1, 0, none⟩)], .func (.func 58) #[] #[.pointer (some ⟨b1, 0, none⟩)], .func (.func 59) #[] #[.pointer (some ⟨b2, 0, none⟩), .pointer (some ⟨b1, 0, none⟩)]] rfl rfl (World.news_of_block (cs := #[.int .u8 2, .int .i64 254, .int .i64 4, .string (⟨#[105, 110]⟩), .func (.func 57) #[] #[.pointer (some ⟨b1, 0, none⟩)], .func (.func 58) #[] #[.pointer (some ⟨b1, 0, none⟩)], .func (.func 59) #[] #[.pointer (some ⟨b2, 0, none⟩), .pointer (some ⟨b1, 0, none⟩)]]) (t := 44) (fr := (0, 0)) (Lies.new (by simp))) (by simp [Value.oneCell']) (by unfold maxLen; omega) (by omega) (by simp; omega) ?_; intro v' w2 hown2 hgrow2 _)
        go_roundw
        case rel =>
          have h2 := ((HS1.out.after ((Below.refl _ _).alloc (Nat.le_refl _) _)).after ((Below.refl _ _).alloc (Nat.le_refl _) _)).grown ((HW.out.alloc _).alloc _) (by decide) (by decide) hgrow2
          have o2 := ((HO1.out.alloc _).alloc _).grownOwn ((HW.out.alloc _).alloc _) (by decide) (by decide) hgrow2
          refine ⟨k + 1, bs ++ [(b1, b2)], by omega, by go_num, ?_, ?_, ?_, ?_⟩
          · rw [HT.out, allCells_snoc HS.out]; exact hown2
          · refine Lib.hid ?_; rw [HT.out]; intro u hu; rcases List.mem_append.1 hu with hu | hu; · exact HV.out u hu
            · simp at hu; omega
          · rw [HT.out]; exact h2.snoc o2
          · exact Below.grown ((hbw.alloc (by omega) _).alloc (by simp; omega) _) hgrow2 (by simp; omega) (fun r e => (HO.out.lt r e).1)
        case measure => simp [intOf]; omega
      · have e1 : ((1 : Int) == d) = false := by rw [beq_eq_false_iff_ne]; omega
        have e2 : ((2 : Int) == d) = false := by rw [beq_eq_false_iff_ne]; omega
        have HN := Lib.hid (allU_no hlt (by rw [Hd.out]; exact hu))
        clear hu
        go_wp2_with fail
        refine (scaleOf_0 d e1 e2 _).mono ?_
        rintro e w1 ⟨rfl, hb1⟩
        have s1 := hb1.size; try simp only [World.size_alloc, World.size_setCell, World.size_drew, setRow_size] at s1
        have hbw := hb.trans (hb1.mono hz)
        clear HO HS HC HA HV HT
        go_wp2_with fail
        go_ret2
        exact .inr ⟨HN.out, rfl, hbw.alloc (by omega) _⟩
    · have hke : k = us.length := by omega
      subst hke
      have HO := Lib.hid hown; clear hown
      go_wp2_with fail
      go_ret2
      rw [List.take_length] at *
      exact .inl ⟨allU_yes HV.out, _, bs, rfl, HO.out, hS, hb⟩
end Go.Proofs.YtjejjeomknkglaaDoor
