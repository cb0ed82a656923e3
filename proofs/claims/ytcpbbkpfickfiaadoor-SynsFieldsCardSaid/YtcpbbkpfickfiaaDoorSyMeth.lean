/- Contracts of auguryref4's fail, sign, reg, val, num, name. -/
import Derived.Test.YtcpbbkpfickfiaaDoorSyNext
set_option linter.unusedVariables false
set_option linter.unusedSimpArgs false
namespace Go.Proofs.YtcpbbkpfickfiaaDoor
open Go.RowKit
theorem LnS.tasc {w : World} {g gT cap long : Nat} {ts : List Lx.Tk} {s : Sy.St} (h : LnS w g gT ts cap long s) : ∀ x ∈ (Sy.tokAt ts long s.k).text, 0 ≤ x ∧ x < 256 := by
  unfold Sy.tokAt
  cases e : ts[s.k]? with
  | none => intro x hx; simp at hx
  | some t => exact h.asc t (List.mem_of_getElem? e)
set_option maxRecDepth 100000 in
set_option maxHeartbeats 4000000 in
theorem fail_any (w : World) (g gT : Nat) (ts : List Lx.Tk) (cap long : Nat) (s : Sy.St) (p : Nat) (h : LnS w g gT ts cap long s) :
    Calls Tryd.prog 26 #[.pointer (some ⟨g, 0, none⟩), .int .i64 (p : Int)] w fun e w' => e = .returned (.tuple #[]) ∧ LnS w' g gT ts cap long (Sy.fail p s) ∧ Fg g w w' := by
  have hr := h.row
  have c3 : w.cell? ⟨g, 3, none⟩ = some (.int .i64 s.bad) := by rw [cell_of_row _ _ _ _ _ _ hr]; rfl
  have z3 : w.frozen? ⟨g, 3, none⟩ = false := frozen_of_row w g 3 _ _ hr
  by_cases hb : s.bad < 0
  · have hf : Sy.fail p s = ⟨s.k, p⟩ := by unfold Sy.fail; rw [if_pos hb]
    rw [hf]
    have hW1 := heap_setCell_same w g 3 _ _ (.int .i64 (p : Int)) hr
    simp only [List.setIfInBounds_toArray, List.set_cons_zero, List.set_cons_succ] at hW1
    have hfg : Fg g w (w.setCell ⟨g, 3, none⟩ (.int .i64 (p : Int))) := by
      rw [setCell_eq_setRow _ _ _ _ _ _ _ hr]
      exact (Fg.refl g w).setRow' _
    have HW := Lib.hid hW1; have HF := Lib.hid hfg
    clear hW1 hfg hf
    go_enter Tryd.func26, Tryd.ntmps26
    go_wp2_with fail
    go_end0
    exact ⟨rfl, ⟨HW.out, h.toks.fg HF.out h.far, h.far, Nat.lt_of_lt_of_le h.gTlt HF.out.size, h.cap_, h.len, h.kle, h.asc⟩, HF.out⟩
  · have hf : Sy.fail p s = s := by unfold Sy.fail; rw [if_neg hb]
    rw [hf]
    clear hf
    go_enter Tryd.func26, Tryd.ntmps26
    go_wp2_with fail
    go_end0
    exact ⟨rfl, h, Fg.refl g w⟩
set_option maxRecDepth 100000 in
set_option maxHeartbeats 4000000 in
theorem sign_any (w : World) (g gT : Nat) (ts : List Lx.Tk) (cap long : Nat) (s : Sy.St) (c : Int) (hc : 0 ≤ c ∧ c < 256) (S : ByteArray) (hS : S = strOfNums [c]) (h : LnS w g gT ts cap long s) :
    Calls Tryd.prog 42 #[.pointer (some ⟨g, 0, none⟩), .string S] w fun e w' => e = .returned (.tuple #[]) ∧ LnS w' g gT ts cap long (Sy.sign ts long c s) ∧ Fg g w w' := by
  subst hS
  have hn := next_any w g gT ts cap long s h
  have hta := h.tasc
  have hq := str_beq2 hta (ys := [c]) (fun y hy => by simp at hy; subst hy; exact hc)
  have hsg : Sy.sign ts long c s = if (Sy.tokAt ts long s.k).kind = 3 ∧ (Sy.tokAt ts long s.k).text = [c] then Sy.step ts s else Sy.fail (Sy.tokAt ts long s.k).at_ (Sy.step ts s) := rfl
  rw [hsg]
  generalize Sy.step ts s = s1 at *
  generalize (Sy.tokAt ts long s.k) = tk at *
  obtain ⟨kd, tx, nn, pl⟩ := tk
  simp only at hq ⊢
  have HN := Lib.hid hn
  clear hn hsg hta
  by_cases hk : kd = 3
  · subst hk
    by_cases ht : tx = [c]
    · rw [decide_eq_true ht] at hq
      rw [if_pos ⟨rfl, ht⟩]
      clear ht
      go_enter Tryd.func42, Tryd.ntmps42
      go_wp2_with fail
      refine HN.out.mono ?_
      rintro e w1 ⟨rfl, h1, f1⟩
      go_wp2_with fail
      go_end0
      exact ⟨rfl, h1.up (upA (up0 w1) _), f1.up (upA (up0 w1) _)⟩
    · rw [decide_eq_false ht] at hq
      rw [if_neg (fun hh => ht hh.2)]
      clear ht
      go_enter Tryd.func42, Tryd.ntmps42
      go_wp2_with fail
      refine HN.out.mono ?_
      rintro e w1 ⟨rfl, h1, f1⟩
      go_wp2_with fail
      refine (fail_any _ g gT ts cap long s1 pl (h1.up (upA (up0 w1) _))).mono ?_
      rintro e w2 ⟨rfl, h2, f2⟩
      go_wp2_with fail
      go_end0
      exact ⟨rfl, h2, (f1.up (upA (up0 w1) _)).trans f2⟩
  · rw [if_neg (fun hh => hk hh.1)]
    have hk2 : (kd == 3) = false := by simpa using hk
    go_enter Tryd.func42, Tryd.ntmps42
    go_wp2_with fail
    refine HN.out.mono ?_
    rintro e w1 ⟨rfl, h1, f1⟩
    go_wp2_with fail
    refine (fail_any _ g gT ts cap long s1 pl (h1.up (upA (up0 w1) _))).mono ?_
    rintro e w2 ⟨rfl, h2, f2⟩
    go_wp2_with fail
    go_end0
    exact ⟨rfl, h2, (f1.up (upA (up0 w1) _)).trans f2⟩
end Go.Proofs.YtcpbbkpfickfiaaDoor
