/- The contract of auguryref4's val, of a reader. -/
import Derived.Test.YtcpbbkpfickfiaaDoorSyMeth2
set_option linter.unusedVariables false
set_option linter.unusedSimpArgs false
namespace Go.Proofs.YtcpbbkpfickfiaaDoor
open Go.RowKit
theorem LnS.set {w : World} {g gT cap long k : Nat} {ts : List Lx.Tk} {s : Sy.St} (h : LnS w g gT ts cap long s) (h1 : k ≠ g) (h2 : k ≠ gT) (cs : Array Value) : LnS (w.setRow k cs) g gT ts cap long s :=
  ⟨(setRow_other _ _ _ _ (Ne.symm h1)).trans h.row, fun j t ht => by
    obtain ⟨q0, q1, q2, q3, q4⟩ := h.toks j t ht
    have hc : ∀ i, (w.setRow k cs).cell? ⟨gT, i, none⟩ = w.cell? ⟨gT, i, none⟩ := fun i => cell_setRow_other _ _ _ _ (Ne.symm h2)
    exact ⟨by simpa using q0, (hc _).trans q1, (hc _).trans q2, (hc _).trans q3, (hc _).trans q4⟩, h.far, by simpa using h.gTlt, h.cap_, h.len, h.kle, h.asc⟩
theorem infoV : (Tryd.prog.info? 25).map (·.size) = some 2 := by kernel_rfl
/-- a Val stored into a variable -/
theorem wp_storeV {w : World} {ops : Array Oper} {rest : List Oper} {o : Oper} {a : Act} {Q : Exit → Act → World → Prop} (hgd : o.guard = none) (x y : Operand) (ho : o.op = .store 25 x y)
    (g : Nat) (c0 c1 : Value) (hx : a.eval x = .pointer (some ⟨g, 0, none⟩)) (hy : a.eval y = .agg #[c0, c1]) (t : TypeId) (o0 o1 : Value) (hg : w.heap[g]? = some (.cells #[o0, o1] t (0, 0)))
    (h0 : c0.oneCell' = true) (h1 : c1.oneCell' = true)
    (h : wpList Tryd.prog ops Q rest (a.put o.dst undef) (w.setRow g #[c0, c1])) : wpList Tryd.prog ops Q (o :: rest) a w :=
  wpList_store_row hgd _ x y ho g _ hx hy t _ hg infoV rfl (by simp [h0, h1]) h
theorem resV {fn : Func} {p : Tmp} (h : fn.results = #[.cell p 25]) (tmps : Array Value) (w : World) (g : Nat) (t : TypeId) (c0 c1 : Value) (fr : Nat × Nat)
    (hp : tmps.getD p undef = .pointer (some ⟨g, 0, none⟩)) (hg : w.heap[g]? = some (.cells #[c0, c1] t fr)) : (results fn tmps).run Tryd.prog w = .ok (.agg #[c0, c1]) w :=
  results_cell_row h tmps w g t _ fr _ hp hg Tryd.underlying25 rfl infoV
abbrev VV (v : Sy.Vl) : Value := .agg #[.bool v.reg, .int .i64 v.n]
set_option maxRecDepth 100000 in
set_option maxHeartbeats 4000000 in
theorem mval_any (w : World) (g gT : Nat) (ts : List Lx.Tk) (cap long : Nat) (s : Sy.St) (h : LnS w g gT ts cap long s) :
    Calls Tryd.prog 60 #[.pointer (some ⟨g, 0, none⟩)] w (MethP w g gT ts cap long (VV (Sy.vl ts long s).1) (Sy.vl ts long s).2) := by
  have hn := next_any _ g gT ts cap long s (h.up (upA (up0 w) (.cells #[.bool false, .int .i64 0] 25)))
  have hta := h.tasc
  have hglt := h.glt
  have hsg : Sy.vl ts long s = if (Sy.tokAt ts long s.k).kind = 2 then (⟨false, (Sy.tokAt ts long s.k).n⟩, Sy.step ts s) else if (Sy.tokAt ts long s.k).kind = 1 ∧ 0 ≤ Sy.regN (Sy.tokAt ts long s.k).text then (⟨true, Sy.regN (Sy.tokAt ts long s.k).text⟩, Sy.step ts s) else (Sy.v0, Sy.fail (Sy.tokAt ts long s.k).at_ (Sy.step ts s)) := rfl
  rw [hsg]
  generalize Sy.step ts s = s1 at *
  generalize (Sy.tokAt ts long s.k) = tk at *
  obtain ⟨kd, tx, nn, pl⟩ := tk
  simp only at hta ⊢
  have hrg := fun W => rreg_any tx W hta
  have HN := Lib.hid hn; have HRG := Lib.hid hrg
  clear hn hsg hta hrg
  generalize Sy.regN tx = rn at *
  by_cases hk : kd = 2
  · subst hk
    rw [if_pos rfl]
    go_enter Tryd.func60, Tryd.ntmps60
    go_wp2_with fail
    refine HN.out.mono ?_
    rintro e w1 ⟨rfl, h1, f1⟩
    have hbn : w.heap.size ≠ g := by omega
    have hs1 : w.heap.size < w1.heap.size := by have := f1.size; simp at this; omega
    have hrow : ∀ o, (w1.alloc o).heap[w.heap.size]? = some (.cells #[.bool false, .int .i64 0] 25 (0, 0)) := fun o => (heap_alloc_old _ _ hs1).trans ((f1.block w.heap.size (by simp) hbn).trans (heap_alloc_new _ _))
    have f0 : Fg g w w1 := (Fg.of_below (upA (up0 w) _)).trans f1
    go_wp2_with (refine wp_storeV (o := ⟨none, .store 25 (.tmp 2) (.tmp 12), _, _, _, none⟩) rfl _ _ rfl w.heap.size _ _ rfl rfl _ _ _ (hrow _) rfl rfl ?_)
    (try simp only [Exit.inBlock, Exit.then])
    refine bodyPost_ret (resV rfl _ _ _ _ _ _ _ rfl (setRow_heap _ _ _ _ _ _ (hrow _))) rfl ?_
    have hF := f0.up (upA (up0 w1) (.cells #[.int .i64 2, .string (strOfNums tx), .int .i64 nn, .int .i64 (pl : Int)] 58))
    exact ⟨rfl, LnS.set (h1.up (upA (up0 w1) _)) hbn (by have := h.gTlt; omega) _, hF.setRow w.heap.size (.inr (Nat.le_refl _)) _⟩
  · rw [if_neg hk]
    have hk2 : (kd == 2) = false := by simpa using hk
    by_cases hk1 : kd = 1
    · subst hk1
      by_cases ht : 0 ≤ rn
      · rw [if_pos ⟨rfl, ht⟩]
        go_enter Tryd.func60, Tryd.ntmps60
        go_wp2_with fail
        refine HN.out.mono ?_
        rintro e w1 ⟨rfl, h1, f1⟩
        have hbn : w.heap.size ≠ g := by omega
        have hs1 : w.heap.size < w1.heap.size := by have := f1.size; simp at this; omega
        have hrow : ∀ o, (w1.alloc o).heap[w.heap.size]? = some (.cells #[.bool false, .int .i64 0] 25 (0, 0)) := fun o => (heap_alloc_old _ _ hs1).trans ((f1.block w.heap.size (by simp) hbn).trans (heap_alloc_new _ _))
        have f0 : Fg g w w1 := (Fg.of_below (upA (up0 w) _)).trans f1
        go_wp2_with (first
          | (go_at_call 37; refine (HRG.out _).mono ?_; rintro e w3 ⟨rfl, rfl⟩)
          | (refine wp_storeV (o := ⟨none, .store 25 (.tmp 2) (.tmp 26), _, _, _, none⟩) rfl _ _ rfl w.heap.size _ _ rfl rfl _ _ _ (hrow _) rfl rfl ?_))
        (try simp only [Exit.inBlock, Exit.then])
        refine bodyPost_ret (resV rfl _ _ _ _ _ _ _ rfl (setRow_heap _ _ _ _ _ _ (hrow _))) rfl ?_
        have hF := f0.up (upA (up0 w1) (.cells #[.int .i64 1, .string (strOfNums tx), .int .i64 nn, .int .i64 (pl : Int)] 58))
        exact ⟨rfl, LnS.set (h1.up (upA (up0 w1) _)) hbn (by have := h.gTlt; omega) _, hF.setRow w.heap.size (.inr (Nat.le_refl _)) _⟩
      · rw [if_neg (fun hh => ht hh.2)]
        go_enter Tryd.func60, Tryd.ntmps60
        go_wp2_with fail
        refine HN.out.mono ?_
        rintro e w1 ⟨rfl, h1, f1⟩
        have hbn : w.heap.size ≠ g := by omega
        have hs1 : w.heap.size < w1.heap.size := by have := f1.size; simp at this; omega
        have hrow : ∀ o, (w1.alloc o).heap[w.heap.size]? = some (.cells #[.bool false, .int .i64 0] 25 (0, 0)) := fun o => (heap_alloc_old _ _ hs1).trans ((f1.block w.heap.size (by simp) hbn).trans (heap_alloc_new _ _))
        have f0 : Fg g w w1 := (Fg.of_below (upA (up0 w) _)).trans f1
        go_wp2_with (go_at_call 37; refine (HRG.out _).mono ?_; rintro e w3 ⟨rfl, rfl⟩)
        refine (fail_any _ g gT ts cap long s1 pl (h1.up (upA (up0 w1) _))).mono ?_
        rintro e w9 ⟨rfl, h9, f9⟩
        have hrow9 := (f9.block w.heap.size (by simp; omega) hbn).trans (hrow _)
        go_wp2_with (refine wp_storeV (o := ⟨none, .store 25 (.tmp 2) (.tmp 31), _, _, _, none⟩) rfl _ _ rfl w.heap.size _ _ rfl rfl _ _ _ hrow9 rfl rfl ?_)
        (try simp only [Exit.inBlock, Exit.then])
        refine bodyPost_ret (resV rfl _ _ _ _ _ _ _ rfl (setRow_heap _ _ _ _ _ _ hrow9)) rfl ?_
        have hF := (f0.up (upA (up0 w1) (.cells #[.int .i64 1, .string (strOfNums tx), .int .i64 nn, .int .i64 (pl : Int)] 58))).trans f9
        exact ⟨rfl, LnS.set (h9) hbn (by have := h.gTlt; omega) _, hF.setRow w.heap.size (.inr (Nat.le_refl _)) _⟩
    · rw [if_neg (fun hh => hk1 hh.1)]
      have hk3 : (kd == 1) = false := by simpa using hk1
      go_enter Tryd.func60, Tryd.ntmps60
      go_wp2_with fail
      refine HN.out.mono ?_
      rintro e w1 ⟨rfl, h1, f1⟩
      have hbn : w.heap.size ≠ g := by omega
      have hs1 : w.heap.size < w1.heap.size := by have := f1.size; simp at this; omega
      have hrow : ∀ o, (w1.alloc o).heap[w.heap.size]? = some (.cells #[.bool false, .int .i64 0] 25 (0, 0)) := fun o => (heap_alloc_old _ _ hs1).trans ((f1.block w.heap.size (by simp) hbn).trans (heap_alloc_new _ _))
      have f0 : Fg g w w1 := (Fg.of_below (upA (up0 w) _)).trans f1
      go_wp2_with fail
      refine (fail_any _ g gT ts cap long s1 pl (h1.up (upA (up0 w1) _))).mono ?_
      rintro e w9 ⟨rfl, h9, f9⟩
      have hrow9 := (f9.block w.heap.size (by simp; omega) hbn).trans (hrow _)
      go_wp2_with (refine wp_storeV (o := ⟨none, .store 25 (.tmp 2) (.tmp 31), _, _, _, none⟩) rfl _ _ rfl w.heap.size _ _ rfl rfl _ _ _ hrow9 rfl rfl ?_)
      (try simp only [Exit.inBlock, Exit.then])
      refine bodyPost_ret (resV rfl _ _ _ _ _ _ _ rfl (setRow_heap _ _ _ _ _ _ hrow9)) rfl ?_
      have hF := (f0.up (upA (up0 w1) (.cells #[.int .i64 kd, .string (strOfNums tx), .int .i64 nn, .int .i64 (pl : Int)] 58))).trans f9
      exact ⟨rfl, LnS.set (h9) hbn (by have := h.gTlt; omega) _, hF.setRow w.heap.size (.inr (Nat.le_refl _)) _⟩
end Go.Proofs.YtcpbbkpfickfiaaDoor
