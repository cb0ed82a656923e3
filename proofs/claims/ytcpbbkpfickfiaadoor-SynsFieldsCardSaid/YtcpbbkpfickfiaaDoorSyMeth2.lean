/- Contracts of auguryref4's reg, num and name, of a reader. -/
import Derived.Test.YtcpbbkpfickfiaaDoorSyMeth
set_option linter.unusedVariables false
set_option linter.unusedSimpArgs false
namespace Go.Proofs.YtcpbbkpfickfiaaDoor
open Go.RowKit
/-- what a reader's method hands back, and how it leaves the reader -/
def MethP (w : World) (g gT : Nat) (ts : List Lx.Tk) (cap long : Nat) (v : Value) (s' : Sy.St) (e : Ending) (w' : World) : Prop :=
  e = .returned v ∧ LnS w' g gT ts cap long s' ∧ Fg g w w'
set_option maxRecDepth 100000 in
set_option maxHeartbeats 4000000 in
theorem mreg_any (w : World) (g gT : Nat) (ts : List Lx.Tk) (cap long : Nat) (s : Sy.St) (h : LnS w g gT ts cap long s) :
    Calls Tryd.prog 59 #[.pointer (some ⟨g, 0, none⟩)] w (MethP w g gT ts cap long (.int .i64 (Sy.reg ts long s).1) (Sy.reg ts long s).2) := by
  have hn := next_any w g gT ts cap long s h
  have hta := h.tasc
  have hsg : Sy.reg ts long s = if (Sy.tokAt ts long s.k).kind = 1 ∧ 0 ≤ Sy.regN (Sy.tokAt ts long s.k).text then (Sy.regN (Sy.tokAt ts long s.k).text, Sy.step ts s) else (0, Sy.fail (Sy.tokAt ts long s.k).at_ (Sy.step ts s)) := rfl
  rw [hsg]
  generalize Sy.step ts s = s1 at *
  generalize (Sy.tokAt ts long s.k) = tk at *
  obtain ⟨kd, tx, nn, pl⟩ := tk
  simp only at hta ⊢
  have hrg := fun W => rreg_any tx W hta
  have HN := Lib.hid hn; have HRG := Lib.hid hrg
  clear hn hsg hta hrg
  generalize Sy.regN tx = rn at *
  by_cases hk : kd = 1
  · subst hk
    by_cases ht : 0 ≤ rn
    · rw [if_pos ⟨rfl, ht⟩]
      go_enter Tryd.func59, Tryd.ntmps59
      go_wp2_with fail
      refine HN.out.mono ?_
      rintro e w1 ⟨rfl, h1, f1⟩
      go_wp2_with (go_at_call 37; refine (HRG.out _).mono ?_; rintro e w3 ⟨rfl, rfl⟩)
      go_ret
      exact ⟨rfl, h1.up (upA (up0 w1) _), f1.up (upA (up0 w1) _)⟩
    · rw [if_neg (fun hh => ht hh.2)]
      go_enter Tryd.func59, Tryd.ntmps59
      go_wp2_with fail
      refine HN.out.mono ?_
      rintro e w1 ⟨rfl, h1, f1⟩
      go_wp2_with (go_at_call 37; refine (HRG.out _).mono ?_; rintro e w3 ⟨rfl, rfl⟩)
      refine (fail_any _ g gT ts cap long s1 pl (h1.up (upA (up0 w1) _))).mono ?_
      rintro e w9 ⟨rfl, h9, f9⟩
      go_wp2_with fail
      go_ret
      exact ⟨rfl, h9, (f1.up (upA (up0 w1) _)).trans f9⟩
  · rw [if_neg (fun hh => hk hh.1)]
    have hk2 : (kd == 1) = false := by simpa using hk
    all_goals
      go_enter Tryd.func59, Tryd.ntmps59
      go_wp2_with fail
      refine HN.out.mono ?_
      rintro e w1 ⟨rfl, h1, f1⟩
      go_wp2_with fail
      refine (fail_any _ g gT ts cap long s1 pl (h1.up (upA (up0 w1) _))).mono ?_
      rintro e w9 ⟨rfl, h9, f9⟩
      go_wp2_with fail
      go_ret
      exact ⟨rfl, h9, (f1.up (upA (up0 w1) _)).trans f9⟩
set_option maxRecDepth 100000 in
set_option maxHeartbeats 4000000 in
theorem mnum_any (w : World) (g gT : Nat) (ts : List Lx.Tk) (cap long : Nat) (s : Sy.St) (h : LnS w g gT ts cap long s) :
    Calls Tryd.prog 38 #[.pointer (some ⟨g, 0, none⟩)] w (MethP w g gT ts cap long (.int .i64 (Sy.num ts long s).1) (Sy.num ts long s).2) := by
  have hn := next_any w g gT ts cap long s h
  have hsg : Sy.num ts long s = ((Sy.tokAt ts long s.k).n, if (Sy.tokAt ts long s.k).kind = 2 then Sy.step ts s else Sy.fail (Sy.tokAt ts long s.k).at_ (Sy.step ts s)) := rfl
  rw [hsg]
  generalize Sy.step ts s = s1 at *
  generalize (Sy.tokAt ts long s.k) = tk at *
  obtain ⟨kd, tx, nn, pl⟩ := tk
  simp only
  have HN := Lib.hid hn
  clear hn hsg
  by_cases hk : kd = 2
  · subst hk
    rw [if_pos rfl]
    all_goals
      go_enter Tryd.func38, Tryd.ntmps38
      go_wp2_with fail
      refine HN.out.mono ?_
      rintro e w1 ⟨rfl, h1, f1⟩
      go_wp2_with fail
      go_ret
      exact ⟨rfl, h1.up (upA (up0 w1) _), f1.up (upA (up0 w1) _)⟩
  · rw [if_neg hk]
    have hk2 : (kd == 2) = false := by simpa using hk
    all_goals
      go_enter Tryd.func38, Tryd.ntmps38
      go_wp2_with fail
      refine HN.out.mono ?_
      rintro e w1 ⟨rfl, h1, f1⟩
      go_wp2_with fail
      have e2 : ∀ W', Fg g (w1.alloc (.cells #[.int .i64 kd, .string (strOfNums tx), .int .i64 nn, .int .i64 (pl : Int)] 58)) W' → W'.cell? ⟨w1.heap.size, 2, none⟩ = some (.int .i64 nn) := fun W' hf => by
        have hb := hf.block w1.heap.size (by simp) (by have := h1.glt; omega)
        rw [cell_of_row _ _ _ _ _ _ (hb.trans (heap_alloc_new _ _))]; rfl
      refine (fail_any _ g gT ts cap long s1 pl (h1.up (upA (up0 w1) _))).mono ?_
      rintro e w9 ⟨rfl, h9, f9⟩
      have e3 := e2 _ f9
      clear e2
      go_wp2_with fail
      go_ret
      exact ⟨rfl, h9, (f1.up (upA (up0 w1) _)).trans f9⟩
set_option maxRecDepth 100000 in
set_option maxHeartbeats 4000000 in
theorem mname_any (w : World) (g gT : Nat) (ts : List Lx.Tk) (cap long : Nat) (s : Sy.St) (h : LnS w g gT ts cap long s) :
    Calls Tryd.prog 62 #[.pointer (some ⟨g, 0, none⟩)] w (MethP w g gT ts cap long (.string (strOfNums (Sy.name ts long s).1)) (Sy.name ts long s).2) := by
  have hn := next_any w g gT ts cap long s h
  have hta := h.tasc
  have hsg : Sy.name ts long s = ((Sy.tokAt ts long s.k).text, if (Sy.tokAt ts long s.k).kind = 1 ∧ Sy.isWord (Sy.tokAt ts long s.k).text = false then Sy.step ts s else Sy.fail (Sy.tokAt ts long s.k).at_ (Sy.step ts s)) := rfl
  rw [hsg]
  generalize Sy.step ts s = s1 at *
  generalize (Sy.tokAt ts long s.k) = tk at *
  obtain ⟨kd, tx, nn, pl⟩ := tk
  simp only at hta ⊢
  have hwd := fun W => rword_any tx W hta
  have HN := Lib.hid hn; have HWD := Lib.hid hwd
  clear hn hsg hta hwd
  by_cases hk : kd = 1
  · subst hk
    cases hw : Sy.isWord tx
    · rw [if_pos ⟨rfl, rfl⟩]
      rw [hw] at HWD
      go_enter Tryd.func62, Tryd.ntmps62
      go_wp2_with fail
      refine HN.out.mono ?_
      rintro e w1 ⟨rfl, h1, f1⟩
      go_wp2_with fail
      refine (HWD.out _).mono ?_
      rintro e w3 ⟨rfl, b3⟩
      have e1 := tok_at _ _ _ _ b3
      have e3 := cell_of_row _ _ 1 _ _ _ e1
      simp only [List.getElem?_toArray, List.getElem?_cons_succ, List.getElem?_cons_zero] at e3
      clear e1
      go_wp2_with fail
      go_ret
      exact ⟨rfl, (h1.up (upA (up0 w1) _)).up b3, (f1.up (upA (up0 w1) _)).up b3⟩
    · rw [if_neg (fun hh => by cases hh.2)]
      rw [hw] at HWD
      go_enter Tryd.func62, Tryd.ntmps62
      go_wp2_with fail
      refine HN.out.mono ?_
      rintro e w1 ⟨rfl, h1, f1⟩
      go_wp2_with fail
      refine (HWD.out _).mono ?_
      rintro e w3 ⟨rfl, b3⟩
      have e1 := tok_at _ _ _ _ b3
      have e3 := cell_of_row _ _ 3 _ _ _ e1
      simp only [List.getElem?_toArray, List.getElem?_cons_succ, List.getElem?_cons_zero] at e3
      have h3 := (h1.up (upA (up0 w1) _)).up b3
      have hg1 : w1.heap.size < w3.heap.size := by have := b3.size; simp at this; omega
      have hgn : w1.heap.size ≠ g := by have := h1.glt; omega
      go_wp2_with fail
      refine (fail_any _ g gT ts cap long s1 pl h3).mono ?_
      rintro e w9 ⟨rfl, h9, f9⟩
      have e4 : w9.cell? ⟨w1.heap.size, 1, none⟩ = some (.string (strOfNums tx)) := by
        rw [cell_of_row _ _ _ _ _ _ ((f9.block _ hg1 hgn).trans e1)]; rfl
      clear e1 e3
      go_wp2_with fail
      go_ret
      exact ⟨rfl, h9, ((f1.up (upA (up0 w1) _)).up b3).trans f9⟩
  · rw [if_neg (fun hh => hk hh.1)]
    have hk2 : (kd == 1) = false := by simpa using hk
    all_goals
      go_enter Tryd.func62, Tryd.ntmps62
      go_wp2_with fail
      refine HN.out.mono ?_
      rintro e w1 ⟨rfl, h1, f1⟩
      go_wp2_with fail
      have e2 : ∀ W', Fg g (w1.alloc (.cells #[.int .i64 kd, .string (strOfNums tx), .int .i64 nn, .int .i64 (pl : Int)] 58)) W' → W'.cell? ⟨w1.heap.size, 1, none⟩ = some (.string (strOfNums tx)) := fun W' hf => by
        have hb := hf.block w1.heap.size (by simp) (by have := h1.glt; omega)
        rw [cell_of_row _ _ _ _ _ _ (hb.trans (heap_alloc_new _ _))]; rfl
      refine (fail_any _ g gT ts cap long s1 pl (h1.up (upA (up0 w1) _))).mono ?_
      rintro e w9 ⟨rfl, h9, f9⟩
      have e3 := e2 _ f9
      clear e2
      go_wp2_with fail
      go_ret
      exact ⟨rfl, h9, (f1.up (upA (up0 w1) _)).trans f9⟩
end Go.Proofs.YtcpbbkpfickfiaaDoor
