/- Contracts of auguryref4's declare, item, Digits, val, opName, insText. -/
import Derived.Test.YtcpbbkpfickfiaaDoorSyInA
import Derived.Test.YtcpbbkpfickfiaaDoorSnTop
import Derived.OrdersHeld
import Derived.Deep.RegionHeld3
import Derived.Deep.Cut
import Derived.Deep.CutRange
set_option linter.unusedVariables false
set_option linter.unusedSimpArgs false
namespace Go.Proofs.YtcpbbkpfickfiaaDoor
section
open Go.RowKit
theorem resIt {fn : Func} {p : Tmp} (h : fn.results = #[.cell p 29]) (tmps : Array Value) (w : World) (g : Nat) (i : Sy.It) (t : TypeId) (fr : Nat × Nat)
    (hp : tmps.getD p undef = .pointer (some ⟨g, 0, none⟩)) (hg : w.heap[g]? = some (.cells (ItC i) t fr)) : (results fn tmps).run Tryd.prog w = .ok (ItV i) w :=
  results_cell_row h tmps w g t _ fr _ hp hg Tryd.underlying29 rfl infoIt
abbrev tkC (t : Lx.Tk) : Array Value := #[.int .i64 t.kind, .string (strOfNums t.text), .int .i64 t.n, .int .i64 (t.at_ : Int)]
/-- inside declare or item: the reader, the answer's variable (block gr), the sign that is taken (block gk) -/
structure DI (w0 w : World) (g gT gr gk : Nat) (ts : List Lx.Tk) (cap long : Nat) (s : Sy.St) (tk : Lx.Tk) : Prop where
  ln : LnS w g gT ts cap long s
  res : w.heap[gr]? = some (.cells (ItC Sy.t0) 29 (0, 0))
  tok : w.heap[gk]? = some (.cells (tkC tk) 58 (0, 0))
  fg : Fg g w0 w
  n1 : gr ≠ g
  n2 : gr ≠ gT
  n3 : gk ≠ g
  n4 : gk ≠ gr
  n5 : w0.heap.size ≤ gr
section
variable {w0 w : World} {g gT gr gk cap long : Nat} {ts : List Lx.Tk} {s : Sy.St} {tk : Lx.Tk}
theorem DI.start {w1 : World} (h : LnS w0 g gT ts cap long s) {s1 : Sy.St} (h1 : LnS w1 g gT ts cap long s1) (f1 : Fg g (w0.alloc (.cells (ItC Sy.t0) 29)) w1) (tk : Lx.Tk) :
    DI w0 (w1.alloc (.cells (tkC tk) 58)) g gT w0.heap.size w1.heap.size ts cap long s1 tk := by
  have hglt := h.glt
  have hgt := h.gTlt
  have hsz := f1.size
  have e0 : (w0.alloc (.cells (ItC Sy.t0) 29)).heap.size = w0.heap.size + 1 := by simp
  refine ⟨h1.up (upA (up0 w1) _), ?_, heap_alloc_new _ _, ((Fg.refl g w0).up (upA (up0 w0) _)).trans (f1.up (upA (up0 w1) _)), by omega, by omega, by omega, by omega, Nat.le_refl _⟩
  exact (heap_alloc_old _ _ (by omega)).trans ((f1.block _ (by omega) (by omega)).trans (heap_alloc_new _ _))
theorem DI.call (m : DI w0 w g gT gr gk ts cap long s tk) {w' : World} {s' : Sy.St} (h : LnS w' g gT ts cap long s') (f : Fg g w w') : DI w0 w' g gT gr gk ts cap long s' tk :=
  ⟨h, (f.block _ (Array.getElem?_eq_some_iff.1 m.res).1 m.n1).trans m.res, (f.block _ (Array.getElem?_eq_some_iff.1 m.tok).1 m.n3).trans m.tok, m.fg.trans f, m.n1, m.n2, m.n3, m.n4, m.n5⟩
theorem DI.up (m : DI w0 w g gT gr gk ts cap long s tk) {w' : World} (h : Below w.heap.size w w') : DI w0 w' g gT gr gk ts cap long s tk := m.call (m.ln.up h) (Fg.of_below h)
theorem DI.c (m : DI w0 w g gT gr gk ts cap long s tk) (k : Nat) : w.cell? ⟨gk, k, none⟩ = (tkC tk)[k]? := cell_of_row _ _ _ _ _ _ m.tok
theorem DI.c' (m : DI w0 w g gT gr gk ts cap long s tk) (C : Array Value) (k : Nat) : (w.setRow gr C).cell? ⟨gk, k, none⟩ = (tkC tk)[k]? := (cell_setRow_other _ _ _ _ m.n4).trans (m.c k)
theorem DI.ret (m : DI w0 w g gT gr gk ts cap long s tk) (i : Sy.It) (v : Value) (hv : v = ItV i) : MethP w0 g gT ts cap long (ItV i) s (.returned v) (w.setRow gr (ItC i)) :=
  ⟨by rw [hv], m.ln.set m.n1 m.n2 _, m.fg.setRow _ (.inr m.n5) _⟩
theorem DI.row (m : DI w0 w g gT gr gk ts cap long s tk) (i : Sy.It) : (w.setRow gr (ItC i)).heap[gr]? = some (.cells (ItC i) 29 (0, 0)) := setRow_heap _ _ _ _ _ _ m.res
end
theorem q_ne {tx : List Int} (hta : ∀ y ∈ tx, 0 ≤ y ∧ y < 256) (ys : List Int) (hy : ∀ y ∈ ys, 0 ≤ y ∧ y < 256) (l : List UInt8) (hl : (strOfNums ys).toList = l) (h : tx ≠ ys) : ((strOfNums tx).toList == l) = false := by
  have hh := str_beq2 hta hy
  rw [decide_eq_false h, hl] at hh
  exact hh
set_option maxRecDepth 100000 in
set_option maxHeartbeats 8000000 in
theorem mdecl_reg (w : World) (g gT : Nat) (ts : List Lx.Tk) (cap long : Nat) (s : Sy.St) (sec : Bool) (h : LnS w g gT ts cap long s) (tx : List Int) (n : Int) (p : Nat) (hta : ∀ y ∈ tx, 0 ≤ y ∧ y < 256) (htk : Sy.tokAt ts long s.k = ⟨1, tx, n, p⟩) (hr : 0 ≤ Sy.regN tx) :
    Calls Tryd.prog 39 #[.pointer (some ⟨g, 0, none⟩), .bool sec] w (MethP w g gT ts cap long (ItV ⟨4, 0, sec, [], { Sy.i0 with d := Sy.regN tx }⟩) (Sy.step ts s)) := by
  have hn := fun W hW => next_any W g gT ts cap long s hW
  rw [htk] at hn
  generalize Sy.step ts s = s1 at *
  have hrg := fun W => rreg_any tx W hta
  have hwd := fun W => rword_any tx W hta
  have HN := Lib.hid hn; have HRG := Lib.hid hrg; have HWD := Lib.hid hwd; have HTA := Lib.hid hta
  clear hn hta hrg hwd htk
  generalize Sy.regN tx = rn at *
  go_enter Tryd.func39, Tryd.ntmps39
  go_wp2_with fail
  refine (HN.out _ (h.up (upA (up0 w) _))).mono ?_
  rintro e w1 ⟨rfl, h1, f1⟩
  have m1 := DI.start h h1 f1 ⟨1, tx, n, p⟩
  have c0 := m1.c 0; have c1 := m1.c 1; have c2 := m1.c 2; have c3 := m1.c 3
  go_wp2_with (first | (go_at_call 37; refine (HRG.out _).mono ?_; rintro e w3 ⟨rfl, rfl⟩) | (refine wp_storeIt rfl _ _ rfl w.heap.size ⟨4, 0, sec, [], { Sy.i0 with d := rn }⟩ rfl rfl _ _ m1.res rfl ?_))
  refine bodyPost_ret (resIt rfl _ _ _ ⟨4, 0, sec, [], { Sy.i0 with d := rn }⟩ _ _ rfl (m1.row _)) rfl ?_
  exact m1.ret _ _ rfl
set_option maxRecDepth 100000 in
set_option maxHeartbeats 8000000 in
theorem mdecl_mem (w : World) (g gT : Nat) (ts : List Lx.Tk) (cap long : Nat) (s : Sy.St) (sec : Bool) (h : LnS w g gT ts cap long s) (tx : List Int) (n : Int) (p : Nat) (hta : ∀ y ∈ tx, 0 ≤ y ∧ y < 256) (htk : Sy.tokAt ts long s.k = ⟨1, tx, n, p⟩) (hr : Sy.regN tx < 0) (hw : Sy.isWord tx = false) :
    Calls Tryd.prog 39 #[.pointer (some ⟨g, 0, none⟩), .bool sec] w (MethP w g gT ts cap long (ItV ⟨5, (Sy.num ts long ((Sy.step ts s))).1, sec, tx, Sy.i0⟩) (Sy.num ts long ((Sy.step ts s))).2) := by
  have hn := fun W hW => next_any W g gT ts cap long s hW
  rw [htk] at hn
  generalize Sy.step ts s = s1 at *
  have hrg := fun W => rreg_any tx W hta
  have hwd := fun W => rword_any tx W hta
  rw [hw] at hwd
  have HN := Lib.hid hn; have HRG := Lib.hid hrg; have HWD := Lib.hid hwd; have HTA := Lib.hid hta
  clear hn hta hrg hwd htk
  generalize Sy.regN tx = rn at *
  have hr2 : ¬ 0 ≤ rn := by omega
  go_enter Tryd.func39, Tryd.ntmps39
  go_wp2_with fail
  refine (HN.out _ (h.up (upA (up0 w) _))).mono ?_
  rintro e w1 ⟨rfl, h1, f1⟩
  have m1 := DI.start h h1 f1 ⟨1, tx, n, p⟩
  have c0 := m1.c 0; have c1 := m1.c 1; have c2 := m1.c 2; have c3 := m1.c 3
  go_wp2_with (go_at_call 37; refine (HRG.out _).mono ?_; rintro e w3 ⟨rfl, rfl⟩)
  refine (HWD.out _).mono ?_
  rintro e w4 ⟨rfl, b4⟩
  have m4 := m1.up b4
  clear c0 c1 c2 c3
  have c0 := m4.c 0; have c1 := m4.c 1; have c2 := m4.c 2; have c3 := m4.c 3
  go_wp2_with fail
  refine wp_region_noPanic ?_
  refine wp_region_held_drew (S := fun w' => w'.cell? ⟨w1.heap.size, 1, none⟩ = some (.string (strOfNums tx))) (by kernel_rfl) ?_ (fun hHeld => ?_)
  · exact m4.c 1
  refine wpAnyH_take (i := 0) (oi := _) (v := ?_) rfl (by kernel_rfl) (by kernel_rfl) (by kernel_rfl) (fun _ _ _ h => h) (Or.inl ⟨by kernel_rfl, ?_⟩) (by assumption) ?_
  rotate_left
  · (intro w hSw; (try dsimp only at hSw); go_simp; try (with_reducible rfl))
  (try simp only [List.getElem_toArray, List.getElem_cons_succ, List.getElem_cons_zero, Act.put, List.setIfInBounds_toArray, List.set_cons_zero, List.set_cons_succ])
  refine wpAnyH_take (i := 1) (oi := _) (v := ?_) rfl (by kernel_rfl) (by kernel_rfl) (by kernel_rfl) (fun _ _ _ h => h) (Or.inl ⟨by kernel_rfl, ?_⟩) (by assumption) ?_
  rotate_left
  · (intro w hSw; (try dsimp only at hSw); go_simp; try (with_reducible rfl))
  (try simp only [List.getElem_toArray, List.getElem_cons_succ, List.getElem_cons_zero, Act.put, List.setIfInBounds_toArray, List.set_cons_zero, List.set_cons_succ])
  refine wpAnyH_take (i := 2) (oi := _) (v := ?_) rfl (by kernel_rfl) (by kernel_rfl) (by kernel_rfl) (fun _ _ _ h => h) (Or.inl ⟨by kernel_rfl, ?_⟩) (by assumption) ?_
  rotate_left
  · (intro w hSw; (try dsimp only at hSw); go_simp; try (with_reducible rfl))
  (try simp only [List.getElem_toArray, List.getElem_cons_succ, List.getElem_cons_zero, Act.put, List.setIfInBounds_toArray, List.set_cons_zero, List.set_cons_succ])
  refine wpAnyH_take (i := 3) (oi := _) (v := ?_) rfl (by kernel_rfl) (by kernel_rfl) (by kernel_rfl) (fun _ _ _ h => h) (Or.inl ⟨by kernel_rfl, ?_⟩) (by assumption) ?_
  rotate_left
  · (intro w hSw; (try dsimp only at hSw); go_simp; try (with_reducible rfl))
  (try simp only [List.getElem_toArray, List.getElem_cons_succ, List.getElem_cons_zero, Act.put, List.setIfInBounds_toArray, List.set_cons_zero, List.set_cons_succ])
  refine wpAnyH_ready (rs := [4]) (by kernel_rfl) (by simp) ?_
  refine AllReadyH.cons (o := _) rfl (fun K hK => ?_) AllReadyH.nil
  go_simp
  refine (mnum_any _ g gT ts cap long s1 (m4.ln.up (upD (up0 w4) 1))).mono ?_
  rintro e w5 ⟨rfl, h5, f5⟩
  have m5 := (m4.up (upD (up0 w4) 1)).call h5 f5
  first | refine hK.out _ _ ?_ (fun hHeld => ?_) | (go_wp2_with fail; refine hK.out _ _ ?_ (fun hHeld => ?_))
  · exact m5.c 1
  clear hK K
  (try simp only [List.getElem_toArray, List.getElem_cons_succ, List.getElem_cons_zero, Act.put, List.setIfInBounds_toArray, List.set_cons_zero, List.set_cons_succ])
  refine wpAnyH_take (i := 5) (oi := _) (v := ?_) rfl (by kernel_rfl) (by kernel_rfl) (by kernel_rfl) (fun _ _ _ h => h) (Or.inl ⟨by kernel_rfl, ?_⟩) (by assumption) ?_
  rotate_left
  · (intro w hSw; (try dsimp only at hSw); go_simp; try (with_reducible rfl))
  (try simp only [List.getElem_toArray, List.getElem_cons_succ, List.getElem_cons_zero, Act.put, List.setIfInBounds_toArray, List.set_cons_zero, List.set_cons_succ])
  refine wpAnyH_ready (rs := [6]) (by kernel_rfl) (by simp) ?_
  refine AllReadyH.cons (o := _) rfl (fun K hK => ?_) AllReadyH.nil
  refine step_storeIt rfl _ _ rfl w.heap.size ⟨5, (Sy.num ts long s1).1, sec, tx, Sy.i0⟩ rfl rfl _ _ m5.res rfl ?_
  first | refine hK.out _ _ ?_ (fun hHeld => ?_) | (go_wp2_with fail; refine hK.out _ _ ?_ (fun hHeld => ?_))
  · exact m5.c' _ 1
  clear hK K
  (try simp only [List.getElem_toArray, List.getElem_cons_succ, List.getElem_cons_zero, Act.put, List.setIfInBounds_toArray, List.set_cons_zero, List.set_cons_succ])
  refine wpAnyH_done (by kernel_rfl) ?_ _
  refine NoPanic.normal ?_
  (try go_simp)
  go_wp2_with fail
  refine bodyPost_ret (resIt rfl _ _ _ ⟨5, (Sy.num ts long s1).1, sec, tx, Sy.i0⟩ _ _ rfl (m5.row _)) rfl ?_
  exact m5.ret _ _ rfl
set_option maxRecDepth 100000 in
set_option maxHeartbeats 8000000 in
theorem mdecl_word (w : World) (g gT : Nat) (ts : List Lx.Tk) (cap long : Nat) (s : Sy.St) (sec : Bool) (h : LnS w g gT ts cap long s) (tx : List Int) (n : Int) (p : Nat) (hta : ∀ y ∈ tx, 0 ≤ y ∧ y < 256) (htk : Sy.tokAt ts long s.k = ⟨1, tx, n, p⟩) (hr : Sy.regN tx < 0) (hw : Sy.isWord tx = true) :
    Calls Tryd.prog 39 #[.pointer (some ⟨g, 0, none⟩), .bool sec] w (MethP w g gT ts cap long (ItV ⟨5, (Sy.num ts long (Sy.fail p (Sy.step ts s))).1, sec, tx, Sy.i0⟩) (Sy.num ts long (Sy.fail p (Sy.step ts s))).2) := by
  have hn := fun W hW => next_any W g gT ts cap long s hW
  rw [htk] at hn
  generalize Sy.step ts s = s1 at *
  have hrg := fun W => rreg_any tx W hta
  have hwd := fun W => rword_any tx W hta
  rw [hw] at hwd
  have HN := Lib.hid hn; have HRG := Lib.hid hrg; have HWD := Lib.hid hwd; have HTA := Lib.hid hta
  clear hn hta hrg hwd htk
  generalize Sy.regN tx = rn at *
  have hr2 : ¬ 0 ≤ rn := by omega
  go_enter Tryd.func39, Tryd.ntmps39
  go_wp2_with fail
  refine (HN.out _ (h.up (upA (up0 w) _))).mono ?_
  rintro e w1 ⟨rfl, h1, f1⟩
  have m1 := DI.start h h1 f1 ⟨1, tx, n, p⟩
  have c0 := m1.c 0; have c1 := m1.c 1; have c2 := m1.c 2; have c3 := m1.c 3
  go_wp2_with (go_at_call 37; refine (HRG.out _).mono ?_; rintro e w3 ⟨rfl, rfl⟩)
  refine (HWD.out _).mono ?_
  rintro e w4 ⟨rfl, b4⟩
  have m4 := m1.up b4
  clear c0 c1 c2 c3
  have c0 := m4.c 0; have c1 := m4.c 1; have c2 := m4.c 2; have c3 := m4.c 3
  simp only [tkC, List.getElem?_toArray, List.getElem?_cons_succ, List.getElem?_cons_zero] at c0 c1 c2 c3
  go_wp2_with fail
  refine (fail_any _ g gT ts cap long s1 p m4.ln).mono ?_
  rintro e w6 ⟨rfl, h6, f6⟩
  have m6 := m4.call h6 f6
  clear c0 c1 c2 c3
  go_wp2_with fail
  refine wp_region_noPanic ?_
  refine wp_region_held_drew (S := fun w' => w'.cell? ⟨w1.heap.size, 1, none⟩ = some (.string (strOfNums tx))) (by kernel_rfl) ?_ (fun hHeld => ?_)
  · exact m6.c 1
  refine wpAnyH_take (i := 0) (oi := _) (v := ?_) rfl (by kernel_rfl) (by kernel_rfl) (by kernel_rfl) (fun _ _ _ h => h) (Or.inl ⟨by kernel_rfl, ?_⟩) (by assumption) ?_
  rotate_left
  · (intro w hSw; (try dsimp only at hSw); go_simp; try (with_reducible rfl))
  (try simp only [List.getElem_toArray, List.getElem_cons_succ, List.getElem_cons_zero, Act.put, List.setIfInBounds_toArray, List.set_cons_zero, List.set_cons_succ])
  refine wpAnyH_take (i := 1) (oi := _) (v := ?_) rfl (by kernel_rfl) (by kernel_rfl) (by kernel_rfl) (fun _ _ _ h => h) (Or.inl ⟨by kernel_rfl, ?_⟩) (by assumption) ?_
  rotate_left
  · (intro w hSw; (try dsimp only at hSw); go_simp; try (with_reducible rfl))
  (try simp only [List.getElem_toArray, List.getElem_cons_succ, List.getElem_cons_zero, Act.put, List.setIfInBounds_toArray, List.set_cons_zero, List.set_cons_succ])
  refine wpAnyH_take (i := 2) (oi := _) (v := ?_) rfl (by kernel_rfl) (by kernel_rfl) (by kernel_rfl) (fun _ _ _ h => h) (Or.inl ⟨by kernel_rfl, ?_⟩) (by assumption) ?_
  rotate_left
  · (intro w hSw; (try dsimp only at hSw); go_simp; try (with_reducible rfl))
  (try simp only [List.getElem_toArray, List.getElem_cons_succ, List.getElem_cons_zero, Act.put, List.setIfInBounds_toArray, List.set_cons_zero, List.set_cons_succ])
  refine wpAnyH_take (i := 3) (oi := _) (v := ?_) rfl (by kernel_rfl) (by kernel_rfl) (by kernel_rfl) (fun _ _ _ h => h) (Or.inl ⟨by kernel_rfl, ?_⟩) (by assumption) ?_
  rotate_left
  · (intro w hSw; (try dsimp only at hSw); go_simp; try (with_reducible rfl))
  (try simp only [List.getElem_toArray, List.getElem_cons_succ, List.getElem_cons_zero, Act.put, List.setIfInBounds_toArray, List.set_cons_zero, List.set_cons_succ])
  refine wpAnyH_ready (rs := [4]) (by kernel_rfl) (by simp) ?_
  refine AllReadyH.cons (o := _) rfl (fun K hK => ?_) AllReadyH.nil
  go_simp
  refine (mnum_any _ g gT ts cap long (Sy.fail p s1) (m6.ln.up (upD (up0 w6) 1))).mono ?_
  rintro e w5 ⟨rfl, h5, f5⟩
  have m5 := (m6.up (upD (up0 w6) 1)).call h5 f5
  first | refine hK.out _ _ ?_ (fun hHeld => ?_) | (go_wp2_with fail; refine hK.out _ _ ?_ (fun hHeld => ?_))
  · exact m5.c 1
  clear hK K
  (try simp only [List.getElem_toArray, List.getElem_cons_succ, List.getElem_cons_zero, Act.put, List.setIfInBounds_toArray, List.set_cons_zero, List.set_cons_succ])
  refine wpAnyH_take (i := 5) (oi := _) (v := ?_) rfl (by kernel_rfl) (by kernel_rfl) (by kernel_rfl) (fun _ _ _ h => h) (Or.inl ⟨by kernel_rfl, ?_⟩) (by assumption) ?_
  rotate_left
  · (intro w hSw; (try dsimp only at hSw); go_simp; try (with_reducible rfl))
  (try simp only [List.getElem_toArray, List.getElem_cons_succ, List.getElem_cons_zero, Act.put, List.setIfInBounds_toArray, List.set_cons_zero, List.set_cons_succ])
  refine wpAnyH_ready (rs := [6]) (by kernel_rfl) (by simp) ?_
  refine AllReadyH.cons (o := _) rfl (fun K hK => ?_) AllReadyH.nil
  refine step_storeIt rfl _ _ rfl w.heap.size ⟨5, (Sy.num ts long (Sy.fail p s1)).1, sec, tx, Sy.i0⟩ rfl rfl _ _ m5.res rfl ?_
  first | refine hK.out _ _ ?_ (fun hHeld => ?_) | (go_wp2_with fail; refine hK.out _ _ ?_ (fun hHeld => ?_))
  · exact m5.c' _ 1
  clear hK K
  (try simp only [List.getElem_toArray, List.getElem_cons_succ, List.getElem_cons_zero, Act.put, List.setIfInBounds_toArray, List.set_cons_zero, List.set_cons_succ])
  refine wpAnyH_done (by kernel_rfl) ?_ _
  refine NoPanic.normal ?_
  (try go_simp)
  go_wp2_with fail
  refine bodyPost_ret (resIt rfl _ _ _ ⟨5, (Sy.num ts long (Sy.fail p s1)).1, sec, tx, Sy.i0⟩ _ _ rfl (m5.row _)) rfl ?_
  exact m5.ret _ _ rfl
set_option maxRecDepth 100000 in
set_option maxHeartbeats 8000000 in
theorem mdecl_bad (w : World) (g gT : Nat) (ts : List Lx.Tk) (cap long : Nat) (s : Sy.St) (sec : Bool) (h : LnS w g gT ts cap long s) (kd : Int) (tx : List Int) (n : Int) (p : Nat) (hta : ∀ y ∈ tx, 0 ≤ y ∧ y < 256) (htk : Sy.tokAt ts long s.k = ⟨kd, tx, n, p⟩) (hk : kd ≠ 1) :
    Calls Tryd.prog 39 #[.pointer (some ⟨g, 0, none⟩), .bool sec] w (MethP w g gT ts cap long (ItV ⟨5, (Sy.num ts long (Sy.fail p (Sy.step ts s))).1, sec, tx, Sy.i0⟩) (Sy.num ts long (Sy.fail p (Sy.step ts s))).2) := by
  have hn := fun W hW => next_any W g gT ts cap long s hW
  rw [htk] at hn
  generalize Sy.step ts s = s1 at *
  have hrg := fun W => rreg_any tx W hta
  have hwd := fun W => rword_any tx W hta
  have HN := Lib.hid hn; have HRG := Lib.hid hrg; have HWD := Lib.hid hwd; have HTA := Lib.hid hta
  clear hn hta hrg hwd htk
  generalize Sy.regN tx = rn at *
  have hk2 : (kd == 1) = false := by simpa using hk
  go_enter Tryd.func39, Tryd.ntmps39
  go_wp2_with fail
  refine (HN.out _ (h.up (upA (up0 w) _))).mono ?_
  rintro e w1 ⟨rfl, h1, f1⟩
  have m1 := DI.start h h1 f1 ⟨kd, tx, n, p⟩
  have c0 := m1.c 0; have c1 := m1.c 1; have c2 := m1.c 2; have c3 := m1.c 3
  go_wp2_with fail
  refine (fail_any _ g gT ts cap long s1 p m1.ln).mono ?_
  rintro e w6 ⟨rfl, h6, f6⟩
  have m6 := m1.call h6 f6
  clear c0 c1 c2 c3
  go_wp2_with fail
  refine wp_region_noPanic ?_
  refine wp_region_held_drew (S := fun w' => w'.cell? ⟨w1.heap.size, 1, none⟩ = some (.string (strOfNums tx))) (by kernel_rfl) ?_ (fun hHeld => ?_)
  · exact m6.c 1
  refine wpAnyH_take (i := 0) (oi := _) (v := ?_) rfl (by kernel_rfl) (by kernel_rfl) (by kernel_rfl) (fun _ _ _ h => h) (Or.inl ⟨by kernel_rfl, ?_⟩) (by assumption) ?_
  rotate_left
  · (intro w hSw; (try dsimp only at hSw); go_simp; try (with_reducible rfl))
  (try simp only [List.getElem_toArray, List.getElem_cons_succ, List.getElem_cons_zero, Act.put, List.setIfInBounds_toArray, List.set_cons_zero, List.set_cons_succ])
  refine wpAnyH_take (i := 1) (oi := _) (v := ?_) rfl (by kernel_rfl) (by kernel_rfl) (by kernel_rfl) (fun _ _ _ h => h) (Or.inl ⟨by kernel_rfl, ?_⟩) (by assumption) ?_
  rotate_left
  · (intro w hSw; (try dsimp only at hSw); go_simp; try (with_reducible rfl))
  (try simp only [List.getElem_toArray, List.getElem_cons_succ, List.getElem_cons_zero, Act.put, List.setIfInBounds_toArray, List.set_cons_zero, List.set_cons_succ])
  refine wpAnyH_take (i := 2) (oi := _) (v := ?_) rfl (by kernel_rfl) (by kernel_rfl) (by kernel_rfl) (fun _ _ _ h => h) (Or.inl ⟨by kernel_rfl, ?_⟩) (by assumption) ?_
  rotate_left
  · (intro w hSw; (try dsimp only at hSw); go_simp; try (with_reducible rfl))
  (try simp only [List.getElem_toArray, List.getElem_cons_succ, List.getElem_cons_zero, Act.put, List.setIfInBounds_toArray, List.set_cons_zero, List.set_cons_succ])
  refine wpAnyH_take (i := 3) (oi := _) (v := ?_) rfl (by kernel_rfl) (by kernel_rfl) (by kernel_rfl) (fun _ _ _ h => h) (Or.inl ⟨by kernel_rfl, ?_⟩) (by assumption) ?_
  rotate_left
  · (intro w hSw; (try dsimp only at hSw); go_simp; try (with_reducible rfl))
  (try simp only [List.getElem_toArray, List.getElem_cons_succ, List.getElem_cons_zero, Act.put, List.setIfInBounds_toArray, List.set_cons_zero, List.set_cons_succ])
  refine wpAnyH_ready (rs := [4]) (by kernel_rfl) (by simp) ?_
  refine AllReadyH.cons (o := _) rfl (fun K hK => ?_) AllReadyH.nil
  go_simp
  refine (mnum_any _ g gT ts cap long (Sy.fail p s1) (m6.ln.up (upD (up0 w6) 1))).mono ?_
  rintro e w5 ⟨rfl, h5, f5⟩
  have m5 := (m6.up (upD (up0 w6) 1)).call h5 f5
  first | refine hK.out _ _ ?_ (fun hHeld => ?_) | (go_wp2_with fail; refine hK.out _ _ ?_ (fun hHeld => ?_))
  · exact m5.c 1
  clear hK K
  (try simp only [List.getElem_toArray, List.getElem_cons_succ, List.getElem_cons_zero, Act.put, List.setIfInBounds_toArray, List.set_cons_zero, List.set_cons_succ])
  refine wpAnyH_take (i := 5) (oi := _) (v := ?_) rfl (by kernel_rfl) (by kernel_rfl) (by kernel_rfl) (fun _ _ _ h => h) (Or.inl ⟨by kernel_rfl, ?_⟩) (by assumption) ?_
  rotate_left
  · (intro w hSw; (try dsimp only at hSw); go_simp; try (with_reducible rfl))
  (try simp only [List.getElem_toArray, List.getElem_cons_succ, List.getElem_cons_zero, Act.put, List.setIfInBounds_toArray, List.set_cons_zero, List.set_cons_succ])
  refine wpAnyH_ready (rs := [6]) (by kernel_rfl) (by simp) ?_
  refine AllReadyH.cons (o := _) rfl (fun K hK => ?_) AllReadyH.nil
  refine step_storeIt rfl _ _ rfl w.heap.size ⟨5, (Sy.num ts long (Sy.fail p s1)).1, sec, tx, Sy.i0⟩ rfl rfl _ _ m5.res rfl ?_
  first | refine hK.out _ _ ?_ (fun hHeld => ?_) | (go_wp2_with fail; refine hK.out _ _ ?_ (fun hHeld => ?_))
  · exact m5.c' _ 1
  clear hK K
  (try simp only [List.getElem_toArray, List.getElem_cons_succ, List.getElem_cons_zero, Act.put, List.setIfInBounds_toArray, List.set_cons_zero, List.set_cons_succ])
  refine wpAnyH_done (by kernel_rfl) ?_ _
  refine NoPanic.normal ?_
  (try go_simp)
  go_wp2_with fail
  refine bodyPost_ret (resIt rfl _ _ _ ⟨5, (Sy.num ts long (Sy.fail p s1)).1, sec, tx, Sy.i0⟩ _ _ rfl (m5.row _)) rfl ?_
  exact m5.ret _ _ rfl
theorem mdecl_any (w : World) (g gT : Nat) (ts : List Lx.Tk) (cap long : Nat) (s : Sy.St) (sec : Bool) (h : LnS w g gT ts cap long s) :
    Calls Tryd.prog 39 #[.pointer (some ⟨g, 0, none⟩), .bool sec] w (MethP w g gT ts cap long (ItV (Sy.declare ts long sec s).1) (Sy.declare ts long sec s).2) := by
  obtain ⟨kd, tx, n, p, htk⟩ : ∃ kd tx n p, Sy.tokAt ts long s.k = ⟨kd, tx, n, p⟩ := ⟨_, _, _, _, rfl⟩
  have hta := h.tasc
  rw [htk] at hta
  unfold Sy.declare
  rw [htk]
  simp only at hta ⊢
  by_cases hk : kd = 1
  · subst hk
    by_cases hr : 0 ≤ Sy.regN tx
    · rw [if_pos ⟨rfl, hr⟩]
      exact mdecl_reg w g gT ts cap long s sec h tx n p hta htk hr
    · rw [if_neg (fun hh => hr hh.2)]
      cases hw : Sy.isWord tx
      · simp only [true_and, if_true]
        exact mdecl_mem w g gT ts cap long s sec h tx n p hta htk (by omega) hw
      · simp only [true_and, Bool.true_eq_false, if_false]
        exact mdecl_word w g gT ts cap long s sec h tx n p hta htk (by omega) hw
  · rw [if_neg (fun hh => hk hh.1), if_neg (fun hh => hk hh.1)]
    exact mdecl_bad w g gT ts cap long s sec h kd tx n p hta htk hk
set_option maxRecDepth 100000 in
set_option maxHeartbeats 8000000 in
theorem mitem_bad (w : World) (g gT : Nat) (ts : List Lx.Tk) (cap long : Nat) (s : Sy.St) (h : LnS w g gT ts cap long s) (kd : Int) (tx : List Int) (n : Int) (p : Nat) (hta : ∀ y ∈ tx, 0 ≤ y ∧ y < 256) (htk : Sy.tokAt ts long s.k = ⟨kd, tx, n, p⟩) (hk : kd ≠ 1) :
    Calls Tryd.prog 25 #[.pointer (some ⟨g, 0, none⟩)] w (MethP w g gT ts cap long (ItV Sy.t0) (Sy.fail p (Sy.step ts s))) := by
  have hn := fun W hW => next_any W g gT ts cap long s hW
  rw [htk] at hn
  generalize Sy.step ts s = s1 at *
  have hrg := fun W => rreg_any tx W hta
  have hwd := fun W => rword_any tx W hta
  have HN := Lib.hid hn; have HRG := Lib.hid hrg; have HWD := Lib.hid hwd; have HTA := Lib.hid hta
  clear hn hta hrg hwd htk
  generalize Sy.regN tx = rn at *
  have hk2 : (kd == 1) = false := by simpa using hk
  go_enter Tryd.func25, Tryd.ntmps25
  go_wp2_with fail
  refine (HN.out _ (h.up (upA (up0 w) _))).mono ?_
  rintro e w1 ⟨rfl, h1, f1⟩
  have m1 := DI.start h h1 f1 ⟨kd, tx, n, p⟩
  have c0 := m1.c 0; have c1 := m1.c 1; have c2 := m1.c 2; have c3 := m1.c 3
  go_wp2_with fail
  refine (fail_any _ g gT ts cap long s1 p m1.ln).mono ?_
  rintro e w6 ⟨rfl, h6, f6⟩
  have m6 := m1.call h6 f6
  clear c0 c1 c2 c3
  go_wp2_with (refine wp_storeIt rfl _ _ rfl w.heap.size Sy.t0 rfl rfl _ _ m6.res rfl ?_)
  refine bodyPost_ret (resIt rfl _ _ _ Sy.t0 _ _ rfl (m6.row _)) rfl ?_
  exact m6.ret _ _ rfl
set_option maxRecDepth 100000 in
set_option maxHeartbeats 8000000 in
theorem mitem_reg (w : World) (g gT : Nat) (ts : List Lx.Tk) (cap long : Nat) (s : Sy.St) (h : LnS w g gT ts cap long s) (tx : List Int) (n : Int) (p : Nat) (hta : ∀ y ∈ tx, 0 ≤ y ∧ y < 256) (htk : Sy.tokAt ts long s.k = ⟨1, tx, n, p⟩) (hr : 0 ≤ Sy.regN tx) :
    Calls Tryd.prog 25 #[.pointer (some ⟨g, 0, none⟩)] w (MethP w g gT ts cap long (ItV Sy.t0) (Sy.fail p (Sy.step ts s))) := by
  have hn := fun W hW => next_any W g gT ts cap long s hW
  rw [htk] at hn
  generalize Sy.step ts s = s1 at *
  have hrg := fun W => rreg_any tx W hta
  have hwd := fun W => rword_any tx W hta
  have HN := Lib.hid hn; have HRG := Lib.hid hrg; have HWD := Lib.hid hwd; have HTA := Lib.hid hta
  clear hn hta hrg hwd htk
  generalize Sy.regN tx = rn at *
  go_enter Tryd.func25, Tryd.ntmps25
  go_wp2_with fail
  refine (HN.out _ (h.up (upA (up0 w) _))).mono ?_
  rintro e w1 ⟨rfl, h1, f1⟩
  have m1 := DI.start h h1 f1 ⟨1, tx, n, p⟩
  have c0 := m1.c 0; have c1 := m1.c 1; have c2 := m1.c 2; have c3 := m1.c 3
  go_wp2_with (go_at_call 37; refine (HRG.out _).mono ?_; rintro e w3 ⟨rfl, rfl⟩)
  refine (fail_any _ g gT ts cap long s1 p m1.ln).mono ?_
  rintro e w6 ⟨rfl, h6, f6⟩
  have m6 := m1.call h6 f6
  clear c0 c1 c2 c3
  go_wp2_with (refine wp_storeIt rfl _ _ rfl w.heap.size Sy.t0 rfl rfl _ _ m6.res rfl ?_)
  refine bodyPost_ret (resIt rfl _ _ _ Sy.t0 _ _ rfl (m6.row _)) rfl ?_
  exact m6.ret _ _ rfl
set_option maxRecDepth 100000 in
set_option maxHeartbeats 8000000 in
theorem mitem_width (w : World) (g gT : Nat) (ts : List Lx.Tk) (cap long : Nat) (s : Sy.St) (h : LnS w g gT ts cap long s) (tx : List Int) (n : Int) (p : Nat) (hta : ∀ y ∈ tx, 0 ≤ y ∧ y < 256) (htk : Sy.tokAt ts long s.k = ⟨1, tx, n, p⟩) (hr : Sy.regN tx < 0) (q0 : ((strOfNums tx).toList == ([119, 105, 100, 116, 104] : List UInt8)) = true) :
    Calls Tryd.prog 25 #[.pointer (some ⟨g, 0, none⟩)] w (MethP w g gT ts cap long (ItV ⟨1, (Sy.num ts long (Sy.step ts s)).1, false, [], Sy.i0⟩) (Sy.num ts long (Sy.step ts s)).2) := by
  have hn := fun W hW => next_any W g gT ts cap long s hW
  rw [htk] at hn
  generalize Sy.step ts s = s1 at *
  have hrg := fun W => rreg_any tx W hta
  have hwd := fun W => rword_any tx W hta
  have HN := Lib.hid hn; have HRG := Lib.hid hrg; have HWD := Lib.hid hwd; have HTA := Lib.hid hta
  clear hn hta hrg hwd htk
  generalize Sy.regN tx = rn at *
  have hr2 : ¬ 0 ≤ rn := by omega
  go_enter Tryd.func25, Tryd.ntmps25
  go_wp2_with fail
  refine (HN.out _ (h.up (upA (up0 w) _))).mono ?_
  rintro e w1 ⟨rfl, h1, f1⟩
  have m1 := DI.start h h1 f1 ⟨1, tx, n, p⟩
  have c0 := m1.c 0; have c1 := m1.c 1; have c2 := m1.c 2; have c3 := m1.c 3
  go_wp2_with (go_at_call 37; refine (HRG.out _).mono ?_; rintro e w3 ⟨rfl, rfl⟩)
  refine (mnum_any _ g gT ts cap long s1 m1.ln).mono ?_
  rintro e w6 ⟨rfl, h6, f6⟩
  have m6 := m1.call h6 f6
  clear c0 c1 c2 c3
  go_wp2_with (refine wp_storeIt rfl _ _ rfl w.heap.size ⟨1, (Sy.num ts long s1).1, false, [], Sy.i0⟩ rfl rfl _ _ m6.res rfl ?_)
  refine bodyPost_ret (resIt rfl _ _ _ ⟨1, (Sy.num ts long s1).1, false, [], Sy.i0⟩ _ _ rfl (m6.row _)) rfl ?_
  exact m6.ret _ _ rfl
set_option maxRecDepth 100000 in
set_option maxHeartbeats 8000000 in
theorem mitem_window (w : World) (g gT : Nat) (ts : List Lx.Tk) (cap long : Nat) (s : Sy.St) (h : LnS w g gT ts cap long s) (tx : List Int) (n : Int) (p : Nat) (hta : ∀ y ∈ tx, 0 ≤ y ∧ y < 256) (htk : Sy.tokAt ts long s.k = ⟨1, tx, n, p⟩) (hr : Sy.regN tx < 0) (q0 : ((strOfNums tx).toList == ([119, 105, 100, 116, 104] : List UInt8)) = false) (q1 : ((strOfNums tx).toList == ([119, 105, 110, 100, 111, 119] : List UInt8)) = true) :
    Calls Tryd.prog 25 #[.pointer (some ⟨g, 0, none⟩)] w (MethP w g gT ts cap long (ItV ⟨2, (Sy.num ts long (Sy.step ts s)).1, false, [], Sy.i0⟩) (Sy.num ts long (Sy.step ts s)).2) := by
  have hn := fun W hW => next_any W g gT ts cap long s hW
  rw [htk] at hn
  generalize Sy.step ts s = s1 at *
  have hrg := fun W => rreg_any tx W hta
  have hwd := fun W => rword_any tx W hta
  have HN := Lib.hid hn; have HRG := Lib.hid hrg; have HWD := Lib.hid hwd; have HTA := Lib.hid hta
  clear hn hta hrg hwd htk
  generalize Sy.regN tx = rn at *
  have hr2 : ¬ 0 ≤ rn := by omega
  go_enter Tryd.func25, Tryd.ntmps25
  go_wp2_with fail
  refine (HN.out _ (h.up (upA (up0 w) _))).mono ?_
  rintro e w1 ⟨rfl, h1, f1⟩
  have m1 := DI.start h h1 f1 ⟨1, tx, n, p⟩
  have c0 := m1.c 0; have c1 := m1.c 1; have c2 := m1.c 2; have c3 := m1.c 3
  go_wp2_with (go_at_call 37; refine (HRG.out _).mono ?_; rintro e w3 ⟨rfl, rfl⟩)
  refine (mnum_any _ g gT ts cap long s1 m1.ln).mono ?_
  rintro e w6 ⟨rfl, h6, f6⟩
  have m6 := m1.call h6 f6
  clear c0 c1 c2 c3
  go_wp2_with (refine wp_storeIt rfl _ _ rfl w.heap.size ⟨2, (Sy.num ts long s1).1, false, [], Sy.i0⟩ rfl rfl _ _ m6.res rfl ?_)
  refine bodyPost_ret (resIt rfl _ _ _ ⟨2, (Sy.num ts long s1).1, false, [], Sy.i0⟩ _ _ rfl (m6.row _)) rfl ?_
  exact m6.ret _ _ rfl
set_option maxRecDepth 100000 in
set_option maxHeartbeats 8000000 in
theorem mitem_fuel (w : World) (g gT : Nat) (ts : List Lx.Tk) (cap long : Nat) (s : Sy.St) (h : LnS w g gT ts cap long s) (tx : List Int) (n : Int) (p : Nat) (hta : ∀ y ∈ tx, 0 ≤ y ∧ y < 256) (htk : Sy.tokAt ts long s.k = ⟨1, tx, n, p⟩) (hr : Sy.regN tx < 0) (q0 : ((strOfNums tx).toList == ([119, 105, 100, 116, 104] : List UInt8)) = false) (q1 : ((strOfNums tx).toList == ([119, 105, 110, 100, 111, 119] : List UInt8)) = false) (q2 : ((strOfNums tx).toList == ([102, 117, 101, 108] : List UInt8)) = true) :
    Calls Tryd.prog 25 #[.pointer (some ⟨g, 0, none⟩)] w (MethP w g gT ts cap long (ItV ⟨3, (Sy.num ts long (Sy.step ts s)).1, false, [], Sy.i0⟩) (Sy.num ts long (Sy.step ts s)).2) := by
  have hn := fun W hW => next_any W g gT ts cap long s hW
  rw [htk] at hn
  generalize Sy.step ts s = s1 at *
  have hrg := fun W => rreg_any tx W hta
  have hwd := fun W => rword_any tx W hta
  have HN := Lib.hid hn; have HRG := Lib.hid hrg; have HWD := Lib.hid hwd; have HTA := Lib.hid hta
  clear hn hta hrg hwd htk
  generalize Sy.regN tx = rn at *
  have hr2 : ¬ 0 ≤ rn := by omega
  go_enter Tryd.func25, Tryd.ntmps25
  go_wp2_with fail
  refine (HN.out _ (h.up (upA (up0 w) _))).mono ?_
  rintro e w1 ⟨rfl, h1, f1⟩
  have m1 := DI.start h h1 f1 ⟨1, tx, n, p⟩
  have c0 := m1.c 0; have c1 := m1.c 1; have c2 := m1.c 2; have c3 := m1.c 3
  go_wp2_with (go_at_call 37; refine (HRG.out _).mono ?_; rintro e w3 ⟨rfl, rfl⟩)
  refine (mnum_any _ g gT ts cap long s1 m1.ln).mono ?_
  rintro e w6 ⟨rfl, h6, f6⟩
  have m6 := m1.call h6 f6
  clear c0 c1 c2 c3
  go_wp2_with (refine wp_storeIt rfl _ _ rfl w.heap.size ⟨3, (Sy.num ts long s1).1, false, [], Sy.i0⟩ rfl rfl _ _ m6.res rfl ?_)
  refine bodyPost_ret (resIt rfl _ _ _ ⟨3, (Sy.num ts long s1).1, false, [], Sy.i0⟩ _ _ rfl (m6.row _)) rfl ?_
  exact m6.ret _ _ rfl
set_option maxRecDepth 100000 in
set_option maxHeartbeats 8000000 in
theorem mitem_public (w : World) (g gT : Nat) (ts : List Lx.Tk) (cap long : Nat) (s : Sy.St) (h : LnS w g gT ts cap long s) (tx : List Int) (n : Int) (p : Nat) (hta : ∀ y ∈ tx, 0 ≤ y ∧ y < 256) (htk : Sy.tokAt ts long s.k = ⟨1, tx, n, p⟩) (hr : Sy.regN tx < 0) (q0 : ((strOfNums tx).toList == ([119, 105, 100, 116, 104] : List UInt8)) = false) (q1 : ((strOfNums tx).toList == ([119, 105, 110, 100, 111, 119] : List UInt8)) = false) (q2 : ((strOfNums tx).toList == ([102, 117, 101, 108] : List UInt8)) = false) (q3 : ((strOfNums tx).toList == ([112, 117, 98, 108, 105, 99] : List UInt8)) = true) (q4 : ((strOfNums tx).toList == ([115, 101, 99, 114, 101, 116] : List UInt8)) = false) :
    Calls Tryd.prog 25 #[.pointer (some ⟨g, 0, none⟩)] w (MethP w g gT ts cap long (ItV (Sy.declare ts long false (Sy.step ts s)).1) (Sy.declare ts long false (Sy.step ts s)).2) := by
  have hn := fun W hW => next_any W g gT ts cap long s hW
  rw [htk] at hn
  generalize Sy.step ts s = s1 at *
  have hrg := fun W => rreg_any tx W hta
  have hwd := fun W => rword_any tx W hta
  have HN := Lib.hid hn; have HRG := Lib.hid hrg; have HWD := Lib.hid hwd; have HTA := Lib.hid hta
  clear hn hta hrg hwd htk
  generalize Sy.regN tx = rn at *
  have hr2 : ¬ 0 ≤ rn := by omega
  go_enter Tryd.func25, Tryd.ntmps25
  go_wp2_with fail
  refine (HN.out _ (h.up (upA (up0 w) _))).mono ?_
  rintro e w1 ⟨rfl, h1, f1⟩
  have m1 := DI.start h h1 f1 ⟨1, tx, n, p⟩
  have c0 := m1.c 0; have c1 := m1.c 1; have c2 := m1.c 2; have c3 := m1.c 3
  go_wp2_with (go_at_call 37; refine (HRG.out _).mono ?_; rintro e w3 ⟨rfl, rfl⟩)
  refine (mdecl_any _ g gT ts cap long s1 false m1.ln).mono ?_
  rintro e w6 ⟨rfl, h6, f6⟩
  have m6 := m1.call h6 f6
  clear c0 c1 c2 c3
  go_wp2_with (refine wp_storeIt rfl _ _ rfl w.heap.size (Sy.declare ts long false s1).1 rfl rfl _ _ m6.res rfl ?_)
  refine bodyPost_ret (resIt rfl _ _ _ (Sy.declare ts long false s1).1 _ _ rfl (m6.row _)) rfl ?_
  exact m6.ret _ _ rfl
set_option maxRecDepth 100000 in
set_option maxHeartbeats 8000000 in
theorem mitem_secret (w : World) (g gT : Nat) (ts : List Lx.Tk) (cap long : Nat) (s : Sy.St) (h : LnS w g gT ts cap long s) (tx : List Int) (n : Int) (p : Nat) (hta : ∀ y ∈ tx, 0 ≤ y ∧ y < 256) (htk : Sy.tokAt ts long s.k = ⟨1, tx, n, p⟩) (hr : Sy.regN tx < 0) (q0 : ((strOfNums tx).toList == ([119, 105, 100, 116, 104] : List UInt8)) = false) (q1 : ((strOfNums tx).toList == ([119, 105, 110, 100, 111, 119] : List UInt8)) = false) (q2 : ((strOfNums tx).toList == ([102, 117, 101, 108] : List UInt8)) = false) (q3 : ((strOfNums tx).toList == ([112, 117, 98, 108, 105, 99] : List UInt8)) = false) (q4 : ((strOfNums tx).toList == ([115, 101, 99, 114, 101, 116] : List UInt8)) = true) :
    Calls Tryd.prog 25 #[.pointer (some ⟨g, 0, none⟩)] w (MethP w g gT ts cap long (ItV (Sy.declare ts long true (Sy.step ts s)).1) (Sy.declare ts long true (Sy.step ts s)).2) := by
  have hn := fun W hW => next_any W g gT ts cap long s hW
  rw [htk] at hn
  generalize Sy.step ts s = s1 at *
  have hrg := fun W => rreg_any tx W hta
  have hwd := fun W => rword_any tx W hta
  have HN := Lib.hid hn; have HRG := Lib.hid hrg; have HWD := Lib.hid hwd; have HTA := Lib.hid hta
  clear hn hta hrg hwd htk
  generalize Sy.regN tx = rn at *
  have hr2 : ¬ 0 ≤ rn := by omega
  go_enter Tryd.func25, Tryd.ntmps25
  go_wp2_with fail
  refine (HN.out _ (h.up (upA (up0 w) _))).mono ?_
  rintro e w1 ⟨rfl, h1, f1⟩
  have m1 := DI.start h h1 f1 ⟨1, tx, n, p⟩
  have c0 := m1.c 0; have c1 := m1.c 1; have c2 := m1.c 2; have c3 := m1.c 3
  go_wp2_with (go_at_call 37; refine (HRG.out _).mono ?_; rintro e w3 ⟨rfl, rfl⟩)
  refine (mdecl_any _ g gT ts cap long s1 true m1.ln).mono ?_
  rintro e w6 ⟨rfl, h6, f6⟩
  have m6 := m1.call h6 f6
  clear c0 c1 c2 c3
  go_wp2_with (refine wp_storeIt rfl _ _ rfl w.heap.size (Sy.declare ts long true s1).1 rfl rfl _ _ m6.res rfl ?_)
  refine bodyPost_ret (resIt rfl _ _ _ (Sy.declare ts long true s1).1 _ _ rfl (m6.row _)) rfl ?_
  exact m6.ret _ _ rfl
set_option maxRecDepth 100000 in
set_option maxHeartbeats 8000000 in
theorem mitem_ins (w : World) (g gT : Nat) (ts : List Lx.Tk) (cap long : Nat) (s : Sy.St) (h : LnS w g gT ts cap long s) (tx : List Int) (n : Int) (p : Nat) (hta : ∀ y ∈ tx, 0 ≤ y ∧ y < 256) (htk : Sy.tokAt ts long s.k = ⟨1, tx, n, p⟩) (hr : Sy.regN tx < 0) (hw : Sy.isWord tx = true) (q0 : ((strOfNums tx).toList == ([119, 105, 100, 116, 104] : List UInt8)) = false) (q1 : ((strOfNums tx).toList == ([119, 105, 110, 100, 111, 119] : List UInt8)) = false) (q2 : ((strOfNums tx).toList == ([102, 117, 101, 108] : List UInt8)) = false) (q3 : ((strOfNums tx).toList == ([112, 117, 98, 108, 105, 99] : List UInt8)) = false) (q4 : ((strOfNums tx).toList == ([115, 101, 99, 114, 101, 116] : List UInt8)) = false) :
    Calls Tryd.prog 25 #[.pointer (some ⟨g, 0, none⟩)] w (MethP w g gT ts cap long (ItV ⟨7, 0, false, [], (Sy.ins ts long tx (Sy.step ts s)).1⟩) (Sy.ins ts long tx (Sy.step ts s)).2) := by
  have hn := fun W hW => next_any W g gT ts cap long s hW
  rw [htk] at hn
  generalize Sy.step ts s = s1 at *
  have hrg := fun W => rreg_any tx W hta
  have hwd := fun W => rword_any tx W hta
  rw [hw] at hwd
  have HN := Lib.hid hn; have HRG := Lib.hid hrg; have HWD := Lib.hid hwd; have HTA := Lib.hid hta
  clear hn hta hrg hwd htk
  generalize Sy.regN tx = rn at *
  have hr2 : ¬ 0 ≤ rn := by omega
  go_enter Tryd.func25, Tryd.ntmps25
  go_wp2_with fail
  refine (HN.out _ (h.up (upA (up0 w) _))).mono ?_
  rintro e w1 ⟨rfl, h1, f1⟩
  have m1 := DI.start h h1 f1 ⟨1, tx, n, p⟩
  have c0 := m1.c 0; have c1 := m1.c 1; have c2 := m1.c 2; have c3 := m1.c 3
  go_wp2_with (go_at_call 37; refine (HRG.out _).mono ?_; rintro e w3 ⟨rfl, rfl⟩)
  refine (HWD.out _).mono ?_
  rintro e w4 ⟨rfl, b4⟩
  have m4 := m1.up b4
  clear c0 c1 c2 c3
  have c0 := m4.c 0; have c1 := m4.c 1; have c2 := m4.c 2; have c3 := m4.c 3
  simp only [tkC, List.getElem?_toArray, List.getElem?_cons_succ, List.getElem?_cons_zero] at c0 c1 c2 c3
  go_wp2_with fail
  refine (mins_any _ g gT ts cap long s1 tx n p m4.ln HTA.out).mono ?_
  rintro e w6 ⟨rfl, h6, f6⟩
  have m6 := m4.call h6 f6
  clear c0 c1 c2 c3
  have c0 := m6.c 0; have c1 := m6.c 1; have c2 := m6.c 2; have c3 := m6.c 3
  simp only [tkC, List.getElem?_toArray, List.getElem?_cons_succ, List.getElem?_cons_zero] at c0 c1 c2 c3
  go_wp2_with (refine wp_storeIt rfl _ _ rfl w.heap.size ⟨7, 0, false, [], (Sy.ins ts long tx s1).1⟩ rfl rfl _ _ m6.res rfl ?_)
  refine bodyPost_ret (resIt rfl _ _ _ ⟨7, 0, false, [], (Sy.ins ts long tx s1).1⟩ _ _ rfl (m6.row _)) rfl ?_
  exact m6.ret _ _ rfl
set_option maxRecDepth 100000 in
set_option maxHeartbeats 8000000 in
theorem mitem_label (w : World) (g gT : Nat) (ts : List Lx.Tk) (cap long : Nat) (s : Sy.St) (h : LnS w g gT ts cap long s) (tx : List Int) (n : Int) (p : Nat) (hta : ∀ y ∈ tx, 0 ≤ y ∧ y < 256) (htk : Sy.tokAt ts long s.k = ⟨1, tx, n, p⟩) (hr : Sy.regN tx < 0) (hw : Sy.isWord tx = false) (q0 : ((strOfNums tx).toList == ([119, 105, 100, 116, 104] : List UInt8)) = false) (q1 : ((strOfNums tx).toList == ([119, 105, 110, 100, 111, 119] : List UInt8)) = false) (q2 : ((strOfNums tx).toList == ([102, 117, 101, 108] : List UInt8)) = false) (q3 : ((strOfNums tx).toList == ([112, 117, 98, 108, 105, 99] : List UInt8)) = false) (q4 : ((strOfNums tx).toList == ([115, 101, 99, 114, 101, 116] : List UInt8)) = false) :
    Calls Tryd.prog 25 #[.pointer (some ⟨g, 0, none⟩)] w (MethP w g gT ts cap long (ItV ⟨6, 0, false, tx, Sy.i0⟩) (Sy.sign ts long 58 (Sy.step ts s))) := by
  have hn := fun W hW => next_any W g gT ts cap long s hW
  rw [htk] at hn
  generalize Sy.step ts s = s1 at *
  have hrg := fun W => rreg_any tx W hta
  have hwd := fun W => rword_any tx W hta
  rw [hw] at hwd
  have HN := Lib.hid hn; have HRG := Lib.hid hrg; have HWD := Lib.hid hwd; have HTA := Lib.hid hta
  clear hn hta hrg hwd htk
  generalize Sy.regN tx = rn at *
  have hr2 : ¬ 0 ≤ rn := by omega
  go_enter Tryd.func25, Tryd.ntmps25
  go_wp2_with fail
  refine (HN.out _ (h.up (upA (up0 w) _))).mono ?_
  rintro e w1 ⟨rfl, h1, f1⟩
  have m1 := DI.start h h1 f1 ⟨1, tx, n, p⟩
  have c0 := m1.c 0; have c1 := m1.c 1; have c2 := m1.c 2; have c3 := m1.c 3
  go_wp2_with (go_at_call 37; refine (HRG.out _).mono ?_; rintro e w3 ⟨rfl, rfl⟩)
  refine (HWD.out _).mono ?_
  rintro e w4 ⟨rfl, b4⟩
  have m4 := m1.up b4
  clear c0 c1 c2 c3
  have c0 := m4.c 0; have c1 := m4.c 1; have c2 := m4.c 2; have c3 := m4.c 3
  simp only [tkC, List.getElem?_toArray, List.getElem?_cons_succ, List.getElem?_cons_zero] at c0 c1 c2 c3
  go_wp2_with fail
  refine (sign_any _ g gT ts cap long s1 58 (by omega) _ rfl m4.ln).mono ?_
  rintro e w6 ⟨rfl, h6, f6⟩
  have m6 := m4.call h6 f6
  clear c0 c1 c2 c3
  have c0 := m6.c 0; have c1 := m6.c 1; have c2 := m6.c 2; have c3 := m6.c 3
  simp only [tkC, List.getElem?_toArray, List.getElem?_cons_succ, List.getElem?_cons_zero] at c0 c1 c2 c3
  go_wp2_with (refine wp_storeIt rfl _ _ rfl w.heap.size ⟨6, 0, false, tx, Sy.i0⟩ rfl rfl _ _ m6.res rfl ?_)
  refine bodyPost_ret (resIt rfl _ _ _ ⟨6, 0, false, tx, Sy.i0⟩ _ _ rfl (m6.row _)) rfl ?_
  exact m6.ret _ _ rfl
theorem q_eq (ys : List Int) (l : List UInt8) (hl : (strOfNums ys).toList = l) : ((strOfNums ys).toList == l) = true := by
  rw [hl]
  exact beq_self_eq_true l
theorem mitem_any (w : World) (g gT : Nat) (ts : List Lx.Tk) (cap long : Nat) (s : Sy.St) (h : LnS w g gT ts cap long s) :
    Calls Tryd.prog 25 #[.pointer (some ⟨g, 0, none⟩)] w (MethP w g gT ts cap long (ItV (Sy.item ts long s).1) (Sy.item ts long s).2) := by
  obtain ⟨kd, tx, n, p, htk⟩ : ∃ kd tx n p, Sy.tokAt ts long s.k = ⟨kd, tx, n, p⟩ := ⟨_, _, _, _, rfl⟩
  have hta := h.tasc
  rw [htk] at hta
  unfold Sy.item
  rw [htk]
  simp only at hta ⊢
  by_cases hk : kd = 1
  · subst hk
    by_cases hr : Sy.regN tx < 0
    · rw [if_pos ⟨rfl, hr⟩]
      by_cases y0 : tx = [119, 105, 100, 116, 104]
      · subst y0
        rw [if_pos rfl]
        exact mitem_width w g gT ts cap long s h _ n p hta htk hr  (q_eq [119, 105, 100, 116, 104] _ (by rw [Lib.strOfNums_toList]; rfl))
      by_cases y1 : tx = [119, 105, 110, 100, 111, 119]
      · subst y1
        simp only [if_neg y0, if_pos]
        exact mitem_window w g gT ts cap long s h _ n p hta htk hr (q_ne hta [119, 105, 100, 116, 104] (by decide) _ (by rw [Lib.strOfNums_toList]; rfl) y0) (q_eq [119, 105, 110, 100, 111, 119] _ (by rw [Lib.strOfNums_toList]; rfl))
      by_cases y2 : tx = [102, 117, 101, 108]
      · subst y2
        simp only [if_neg y0, if_neg y1, if_pos]
        exact mitem_fuel w g gT ts cap long s h _ n p hta htk hr (q_ne hta [119, 105, 100, 116, 104] (by decide) _ (by rw [Lib.strOfNums_toList]; rfl) y0) (q_ne hta [119, 105, 110, 100, 111, 119] (by decide) _ (by rw [Lib.strOfNums_toList]; rfl) y1) (q_eq [102, 117, 101, 108] _ (by rw [Lib.strOfNums_toList]; rfl))
      by_cases y3 : tx = [112, 117, 98, 108, 105, 99]
      · subst y3
        simp only [if_neg y0, if_neg y1, if_neg y2, if_pos]
        exact mitem_public w g gT ts cap long s h _ n p hta htk hr (q_ne hta [119, 105, 100, 116, 104] (by decide) _ (by rw [Lib.strOfNums_toList]; rfl) y0) (q_ne hta [119, 105, 110, 100, 111, 119] (by decide) _ (by rw [Lib.strOfNums_toList]; rfl) y1) (q_ne hta [102, 117, 101, 108] (by decide) _ (by rw [Lib.strOfNums_toList]; rfl) y2) (q_eq [112, 117, 98, 108, 105, 99] _ (by rw [Lib.strOfNums_toList]; rfl)) (q_ne (by decide) [115, 101, 99, 114, 101, 116] (by decide) _ (by rw [Lib.strOfNums_toList]; rfl) (by decide))
      by_cases y4 : tx = [115, 101, 99, 114, 101, 116]
      · subst y4
        simp only [if_neg y0, if_neg y1, if_neg y2, if_neg y3, if_pos]
        exact mitem_secret w g gT ts cap long s h _ n p hta htk hr (q_ne hta [119, 105, 100, 116, 104] (by decide) _ (by rw [Lib.strOfNums_toList]; rfl) y0) (q_ne hta [119, 105, 110, 100, 111, 119] (by decide) _ (by rw [Lib.strOfNums_toList]; rfl) y1) (q_ne hta [102, 117, 101, 108] (by decide) _ (by rw [Lib.strOfNums_toList]; rfl) y2) (q_ne hta [112, 117, 98, 108, 105, 99] (by decide) _ (by rw [Lib.strOfNums_toList]; rfl) y3) (q_eq [115, 101, 99, 114, 101, 116] _ (by rw [Lib.strOfNums_toList]; rfl))
      rw [if_neg y0, if_neg y1, if_neg y2, if_neg y3, if_neg y4]
      cases hw : Sy.isWord tx
      · rw [if_neg (by decide)]
        exact mitem_label w g gT ts cap long s h _ n p hta htk hr hw (q_ne hta [119, 105, 100, 116, 104] (by decide) _ (by rw [Lib.strOfNums_toList]; rfl) y0) (q_ne hta [119, 105, 110, 100, 111, 119] (by decide) _ (by rw [Lib.strOfNums_toList]; rfl) y1) (q_ne hta [102, 117, 101, 108] (by decide) _ (by rw [Lib.strOfNums_toList]; rfl) y2) (q_ne hta [112, 117, 98, 108, 105, 99] (by decide) _ (by rw [Lib.strOfNums_toList]; rfl) y3) (q_ne hta [115, 101, 99, 114, 101, 116] (by decide) _ (by rw [Lib.strOfNums_toList]; rfl) y4)
      · rw [if_pos rfl]
        exact mitem_ins w g gT ts cap long s h _ n p hta htk hr hw (q_ne hta [119, 105, 100, 116, 104] (by decide) _ (by rw [Lib.strOfNums_toList]; rfl) y0) (q_ne hta [119, 105, 110, 100, 111, 119] (by decide) _ (by rw [Lib.strOfNums_toList]; rfl) y1) (q_ne hta [102, 117, 101, 108] (by decide) _ (by rw [Lib.strOfNums_toList]; rfl) y2) (q_ne hta [112, 117, 98, 108, 105, 99] (by decide) _ (by rw [Lib.strOfNums_toList]; rfl) y3) (q_ne hta [115, 101, 99, 114, 101, 116] (by decide) _ (by rw [Lib.strOfNums_toList]; rfl) y4)
    · rw [if_neg (fun hh => hr hh.2)]
      exact mitem_reg w g gT ts cap long s h tx n p hta htk (by omega)
  · rw [if_neg (fun hh => hk hh.1)]
    exact mitem_bad w g gT ts cap long s h kd tx n p hta htk hk
end
section
open Go.RowKit
/-- what is left to say of a number: m, with the digits behind it said -/
def dgRest (f m : Nat) (acc : List Int) : List Int := if m = 0 ∧ acc ≠ [] then acc else Sy.dg f m ++ acc
theorem dgRest_step (f m : Nat) (acc : List Int) (h : m < 10 ^ f) (hf : 0 < f) (hm : ¬ (m = 0 ∧ acc ≠ [])) :
    dgRest f m acc = dgRest (f - 1) (m / 10) ((48 + ((m % 10 : Nat) : Int)) :: acc) ∧ m / 10 < 10 ^ (f - 1) := by
  obtain ⟨f, rfl⟩ : ∃ k, f = k + 1 := ⟨f - 1, by omega⟩
  have hp : 10 ^ (f + 1) = 10 ^ f * 10 := Nat.pow_succ ..
  refine ⟨?_, by simp only [Nat.add_sub_cancel]; omega⟩
  unfold dgRest
  rw [if_neg hm, Nat.add_sub_cancel]
  by_cases h10 : m < 10
  · rw [Sy.dg_small h10, if_pos ⟨by omega, by simp⟩]
    simp only [List.cons_append, List.nil_append]
    rw [show m % 10 = m from by omega]
  · rw [Sy.dg_big h10, if_neg (by omega)]
    simp
theorem nz_of {m : Nat} (h : ¬ (0 : Int) < (m : Int)) : m = 0 := by omega
theorem dg_cons (d : Int) (acc : List Int) : strOfNums [d] ++ strOfNums acc = strOfNums (d :: acc) := by
  apply ByteArray.ext
  simp [strOfNums]
set_option maxRecDepth 100000 in
set_option maxHeartbeats 8000000 in
theorem rdigits_any (n : Int) (hn : I64 n) (w : World) : Calls Tryd.prog 43 #[.int .i64 n] w (RetB (.string (strOfNums (Sy.digits n))) w) := by
  unfold I64 at hn
  have hS : strOfNums [] = { data := #[] } := rfl
  by_cases h0 : n < 0
  · rw [show Sy.digits n = [45] from if_pos h0]
    go_enter Tryd.func43, Tryd.ntmps43
    go_wp2_with fail
    go_ret
    exact ⟨rfl, up0 w⟩
  · rw [show Sy.digits n = dgRest 20 n.toNat [] from by unfold Sy.digits dgRest; rw [if_neg h0, if_neg (by simp)]; simp]
    obtain ⟨R, hR⟩ : ∃ R, R = dgRest 20 n.toNat [] := ⟨_, rfl⟩
    rw [← hR]
    have hcv : ∀ (W : World) (d : Int), (convert 44 9 (.slice (some ⟨W.heap.size, 0, none⟩) 1 1)).run Tryd.prog (W.alloc (.cells #[.int .u8 d] 5)) = .ok (.string (strOfNums [d])) (W.alloc (.cells #[.int .u8 d] 5)) := fun W d =>
      conv_any (zs := [d]) (Rd.lit W #[.int .u8 d] 5) rfl 44 5 9 Tryd.underlying44 Tryd.underlying5 Tryd.underlying9
    go_enter Tryd.func43, Tryd.ntmps43
    go_wp2_with fail
    go_loopw [0, 3] (fun v0 v3 wx => ∃ (m f : Nat) (acc : List Int), v0 = .int .i64 (m : Int) ∧ v3 = .string (strOfNums acc) ∧ (m : Int) ≤ 9223372036854775807 ∧ m < 10 ^ f ∧ f + acc.length = 20 ∧ R = dgRest f m acc ∧ Below w.heap.size w wx) (fun v0 v3 _ => (intOf v0).toNat + (match v3 with | .string s => if s.size = 0 then 1 else 0 | _ => 0))
    case atStart => exact ⟨n.toNat, 20, [], by rw [Int.toNat_of_nonneg h0], rfl, by omega, by omega, rfl, hR, up0 w⟩
    case round =>
      obtain ⟨m, f, acc, rfl, rfl, hm, hf, hl, hr, hb⟩ := hrel
      have hsz := strOfNums_size acc
      by_cases hend : m = 0 ∧ acc ≠ []
      · obtain ⟨rfl, hne⟩ := hend
        have q : ((strOfNums acc).toList == ([] : List UInt8)) = false := by
          cases acc with
          | nil => exact absurd rfl hne
          | cons c r => rw [Lib.strOfNums_toList]; rfl
        have hR2 : R = acc := by rw [hr]; unfold dgRest; rw [if_pos ⟨rfl, hne⟩]
        have HB := Lib.hid hb
        clear hr hb hR hf hl hne
        go_wp2_with fail
        go_ret
        exact ⟨by rw [hR2]; rfl, HB.out⟩
      · have hf0 : 0 < f := by
          rcases Nat.eq_zero_or_pos f with rfl | h
          · have : m = 0 := by simp at hf; omega
            exact absurd ⟨this, fun h => by rw [h] at hl; simp at hl⟩ hend
          · exact h
        obtain ⟨hs1, hs2⟩ := dgRest_step f m acc hf hf0 hend
        rw [hs1] at hr
        obtain ⟨d, hd⟩ : ∃ d : Nat, m % 10 = d := ⟨_, rfl⟩
        obtain ⟨k, hk⟩ : ∃ k : Nat, m / 10 = k := ⟨_, rfl⟩
        have e4 : (m : Int).tmod 10 = (d : Int) := by rw [Int.tmod_eq_emod_of_nonneg (by omega)]; omega
        have e5 : (m : Int).tdiv 10 = (k : Int) := by rw [Int.tdiv_eq_ediv_of_nonneg (by omega)]; omega
        have b1 : (d : Int) < 10 := by omega
        have b0 : (0 : Int) ≤ d := by omega
        have hkm : (k : Nat) < m ∨ (m = 0 ∧ k = 0) := by omega
        rw [hd, hk] at hr hs1
        rw [hk] at hs2
        have hkm1 : (k : Int) ≤ (m : Int) := by clear hm; omega
        have hki : (k : Int) ≤ 9223372036854775807 := Int.le_trans hkm1 hm
        clear hkm1
        have HD := Lib.hid hd
        have hk64 : wrap64 (k : Int) = k := IntWalk.wrap64_in _ ⟨Int.le_trans (by decide) (Int.natCast_nonneg k), hki⟩
        have HM := Lib.hid hm
        clear hm
        have hsum : ¬ 9223372036854775807 < (strOfNums [48 + (d : Int)]).size + (strOfNums acc).size := by rw [strOfNums_size, strOfNums_size]; simp; omega
        have hcat := dg_cons (48 + (d : Int)) acc
        have hcv2 := fun W => hcv W (48 + (d : Int))
        have hq : ¬ (0 : Int) < (m : Int) → ((strOfNums acc).toList == ([] : List UInt8)) = true := fun h => by
          cases acc with
          | nil => rw [Lib.strOfNums_toList]; rfl
          | cons c r => exact absurd ⟨nz_of h, by simp⟩ hend
        have hsz0 : (if (strOfNums acc).size = 0 then 1 else 0) = if acc = [] then 1 else 0 := by rw [hsz]; cases acc <;> simp
        obtain ⟨S3, hS3⟩ : ∃ S3, strOfNums ((48 + (d : Int)) :: acc) = S3 := ⟨_, rfl⟩
        have hsz3 : S3.size = acc.length + 1 := by rw [← hS3, strOfNums_size]; rfl
        have HS3 := Lib.hid hS3
        rw [hS3] at hcat
        clear hcv hS3 hsz
        generalize strOfNums [48 + (d : Int)] = S1 at *
        generalize strOfNums acc = S2 at *
        have HB := Lib.hid hb; have HR := Lib.hid hr; have HF := Lib.hid hs2; have HL := Lib.hid hl; have HE := Lib.hid hend; have HKM := Lib.hid hkm
        clear hr hb hR hf hl hs1 hs2 hend hd hk hkm
        have HZ := Lib.hid hsz0; have HZ3 := Lib.hid hsz3
        have HKI := Lib.hid hki; have HE5 := Lib.hid e5
        clear hsz0 hsz3 hki
        by_cases hm0 : (0 : Int) < (m : Int)
        · clear hq
          go_wp2_with fail
          simp only [hk64]
          go_round
          case rel => exact ⟨k, f - 1, (48 + (d : Int)) :: acc, rfl, by rw [HS3.out], HKI.out, HF.out, by have := HL.out; simp; omega, HR.out, upA HB.out _⟩
          case measure =>
            have h3 : ¬ S3.size = 0 := by have := HZ3.out; omega
            have h2 := HZ.out
            have h4 := HKM.out
            show (k : Int).toNat + (if S3.size = 0 then 1 else 0) < (m : Int).toNat + (if S2.size = 0 then 1 else 0)
            rw [if_neg h3]
            omega
        · have q := hq hm0
          have hm1 : m = 0 := nz_of hm0
          subst hm1
          have hd0 : d = 0 := HD.out.symm
          have hk0 : k = 0 := HKM.out.elim (fun h => absurd h (Nat.not_lt_zero _)) (fun h => h.2)
          subst hd0
          subst hk0
          have ha : acc = [] := Decidable.byContradiction fun h => HE.out ⟨rfl, h⟩
          have hcv3 : ∀ W : World, (convert 44 9 (.slice (some ⟨W.heap.size, 0, none⟩) 1 1)).run Tryd.prog (W.alloc (.cells #[.int .u8 48] 5)) = .ok (.string S1) (W.alloc (.cells #[.int .u8 48] 5)) := hcv2
          clear hcv2 b0 b1 e4 e5 hk64
          go_wp2_with fail
          go_round
          case rel => exact ⟨0, f - 1, (48 + ((0 : Nat) : Int)) :: acc, rfl, by rw [HS3.out], HKI.out, HF.out, by have := HL.out; simp; omega, HR.out, upA HB.out _⟩
          case measure =>
            have h3 : ¬ S3.size = 0 := by have := HZ3.out; omega
            have h2 := HZ.out
            show (0 : Int).toNat + (if S3.size = 0 then 1 else 0) < ((0 : Nat) : Int).toNat + (if S2.size = 0 then 1 else 0)
            rw [if_neg h3, h2, if_pos ha]
            decide
end
section
open Go.RowKit
theorem dg_len : ∀ (f n : Nat), (Sy.dg f n).length ≤ f
  | 0, n => by simp [Sy.dg]
  | f + 1, n => by
    unfold Sy.dg
    split
    · simp
    · have := dg_len f (n / 10)
      simp; omega
theorem digits_len (n : Int) : (strOfNums (Sy.digits n)).size ≤ 20 := by
  rw [strOfNums_size]
  unfold Sy.digits
  split
  · simp
  · exact dg_len 20 _
theorem rT_len (n : Int) : (strOfNums (Sy.rT n)).size ≤ 21 := by
  have := digits_len n
  rw [strOfNums_size] at this ⊢
  unfold Sy.rT
  simp; omega
theorem vT_len (v : Sy.Vl) : (strOfNums (Sy.vT v)).size ≤ 21 := by
  unfold Sy.vT
  split
  · exact rT_len _
  · have := digits_len v.n; omega
theorem opT_len (n : Int) : (strOfNums (Sy.opT n)).size ≤ 3 := by
  unfold Sy.opT
  split
  · rename_i h
    obtain ⟨m, hm, rfl⟩ : ∃ m : Nat, m < 10 ∧ n = (m : Int) + 1 := ⟨(n - 1).toNat, by omega, by omega⟩
    rw [show ((m : Int) + 1 - 1).toNat = m from by omega]
    rcases (by omega : m = 0 ∨ m = 1 ∨ m = 2 ∨ m = 3 ∨ m = 4 ∨ m = 5 ∨ m = 6 ∨ m = 7 ∨ m = 8 ∨ m = 9) with rfl | rfl | rfl | rfl | rfl | rfl | rfl | rfl | rfl | rfl <;> decide
  · decide
theorem addrT_len (a b : Sy.Vl) : (strOfNums (Sy.addrT a b)).size ≤ 47 := by
  have h1 := vT_len a; have h2 := vT_len b
  rw [strOfNums_size] at h1 h2 ⊢
  unfold Sy.addrT
  simp; omega
theorem two_len (a b : Sy.Vl) : (strOfNums (Sy.two a b)).size ≤ 44 := by
  have h1 := vT_len a; have h2 := vT_len b
  rw [strOfNums_size] at h1 h2 ⊢
  unfold Sy.two
  simp; omega
theorem s_app (a b : List Int) : strOfNums a ++ strOfNums b = strOfNums (a ++ b) := by
  apply ByteArray.ext
  simp [strOfNums]
set_option maxRecDepth 100000 in
set_option maxHeartbeats 8000000 in
theorem rval_any (v : Sy.Vl) (hv : I64 v.n) (w : World) : Calls Tryd.prog 63 #[VV v] w (RetB (.string (strOfNums (Sy.vT v))) w) := by
  obtain ⟨rg, n⟩ := v
  have hd := digits_len n
  have hdg := fun W => rdigits_any n hv W
  have HDG := Lib.hid hdg
  clear hdg
  cases rg
  · show Calls _ _ _ _ (RetB (.string (strOfNums (Sy.digits n))) w)
    go_enter Tryd.func63, Tryd.ntmps63
    go_wp2_with (go_at_call 43; refine (HDG.out _).mono ?_; rintro e w3 ⟨rfl, hb3⟩)
    go_ret
    exact ⟨rfl, upT (upA (up0 w) _) hb3⟩
  · have hr : ({ data := #[114] } : ByteArray) ++ strOfNums (Sy.digits n) = strOfNums (Sy.rT n) := reg_str _
    show Calls _ _ _ _ (RetB (.string (strOfNums (Sy.rT n))) w)
    go_enter Tryd.func63, Tryd.ntmps63
    go_wp2_with (go_at_call 43; refine (HDG.out _).mono ?_; rintro e w3 ⟨rfl, hb3⟩)
    go_ret
    exact ⟨rfl, upT (upA (up0 w) _) hb3⟩
set_option maxRecDepth 100000 in
set_option maxHeartbeats 8000000 in
theorem ropName_any (n : Int) (w : World) : Calls Tryd.prog 64 #[.int .i64 n] w (RetB (.string (strOfNums (Sy.opT n))) w) := by
  by_cases h : 1 ≤ n ∧ n ≤ 10
  · obtain ⟨m, hm, rfl⟩ : ∃ m : Nat, m < 10 ∧ n = ((m + 1 : Nat) : Int) := ⟨(n - 1).toNat, by omega, by omega⟩
    obtain ⟨x, hx, _, _⟩ := op_cell (heap_alloc_new w (.cells opRow 9)) m hm
    have hv : Sy.opT ((m + 1 : Nat) : Int) = x := by
      unfold Sy.opT
      rw [if_pos h, show (((m + 1 : Nat) : Int) - 1).toNat = m from by omega, List.getD_eq_getElem?_getD, hx]
      rfl
    rw [hv]
    have i1 : ¬ ((m + 1 : Nat) : Int) < 1 := by omega
    have i2 : ¬ (10 : Int) < ((m + 1 : Nat) : Int) := by omega
    have i3 : ((m + 1 : Nat) : Int) < 11 := by omega
    have i0 : (0 : Int) ≤ ((m + 1 : Nat) : Int) := by omega
    clear h hv
    go_enter Tryd.func64, Tryd.ntmps64
    go_wp2_with fail
    refine (rops_any _).mono ?_
    rintro e w1 ⟨rfl, rfl⟩
    have hb := heap_alloc_new w (.cells opRow 9)
    have hbw := upA (up0 w) (.cells opRow 9)
    obtain ⟨y, hy, hc, _⟩ := op_cell hb m hm
    rw [hx] at hy
    injection hy with hy
    subst hy
    clear hx
    generalize w.alloc (.cells opRow 9) = W at *
    go_wp2_with fail
    go_ret
    exact ⟨rfl, hbw⟩
  · have hv : Sy.opT n = [63] := by unfold Sy.opT; rw [if_neg h]
    rw [hv]
    rcases (by omega : n < 1 ∨ 10 < n) with h1 | h1
    · clear h
      go_enter Tryd.func64, Tryd.ntmps64
      go_wp2_with fail
      go_ret
      exact ⟨rfl, up0 w⟩
    · have h2 : ¬ n < 1 := by omega
      clear h
      go_enter Tryd.func64, Tryd.ntmps64
      go_wp2_with fail
      go_ret
      exact ⟨rfl, up0 w⟩
theorem tx_addr (a b : Sy.Vl) : ({ data := #[91] } : ByteArray) ++ strOfNums (Sy.vT a) ++ ({ data := #[32, 43, 32] } : ByteArray) ++ strOfNums (Sy.vT b) ++ ({ data := #[93] } : ByteArray) = strOfNums (Sy.addrT a b) := by
  rw [show ({ data := #[91] } : ByteArray) = strOfNums [91] from rfl, show ({ data := #[32, 43, 32] } : ByteArray) = strOfNums [32, 43, 32] from rfl, show ({ data := #[93] } : ByteArray) = strOfNums [93] from rfl]
  simp only [s_app]
  simp [Sy.insT, Sy.text, Sy.two, Sy.addrT, Sy.rT, Sy.kindT]
theorem tx_two (a b : Sy.Vl) : strOfNums (Sy.vT a) ++ ({ data := #[44, 32] } : ByteArray) ++ strOfNums (Sy.vT b) = strOfNums (Sy.two a b) := by
  rw [show ({ data := #[44, 32] } : ByteArray) = strOfNums [44, 32] from rfl]
  simp only [s_app]
  simp [Sy.insT, Sy.text, Sy.two, Sy.addrT, Sy.rT, Sy.kindT]
theorem tx_1 (op d : Int) (a b : Sy.Vl) (nm : List Int) (tg : Int) : strOfNums (Sy.opT op) ++ ({ data := #[32] } : ByteArray) ++ strOfNums (Sy.rT d) ++ ({ data := #[44, 32] } : ByteArray) ++ strOfNums (Sy.two a b) = strOfNums (Sy.insT ⟨1, op, d, a, b, nm, tg⟩) := by
  rw [show ({ data := #[32] } : ByteArray) = strOfNums [32] from rfl, show ({ data := #[44, 32] } : ByteArray) = strOfNums [44, 32] from rfl]
  simp only [s_app]
  simp [Sy.insT, Sy.text, Sy.two, Sy.addrT, Sy.rT, Sy.kindT]
theorem tx_2 (op d : Int) (a b : Sy.Vl) (nm : List Int) (tg : Int) : ({ data := #[108, 111, 97, 100, 32] } : ByteArray) ++ strOfNums (Sy.rT d) ++ ({ data := #[44, 32] } : ByteArray) ++ strOfNums (Sy.addrT a b) = strOfNums (Sy.insT ⟨2, op, d, a, b, nm, tg⟩) := by
  rw [show ({ data := #[108, 111, 97, 100, 32] } : ByteArray) = strOfNums [108, 111, 97, 100, 32] from rfl, show ({ data := #[44, 32] } : ByteArray) = strOfNums [44, 32] from rfl]
  simp only [s_app]
  simp [Sy.insT, Sy.text, Sy.two, Sy.addrT, Sy.rT, Sy.kindT]
theorem tx_3 (op d : Int) (a b : Sy.Vl) (nm : List Int) (tg : Int) : ({ data := #[115, 116, 111, 114, 101, 32] } : ByteArray) ++ strOfNums (Sy.addrT a b) ++ ({ data := #[44, 32] } : ByteArray) ++ strOfNums (Sy.rT d) = strOfNums (Sy.insT ⟨3, op, d, a, b, nm, tg⟩) := by
  rw [show ({ data := #[115, 116, 111, 114, 101, 32] } : ByteArray) = strOfNums [115, 116, 111, 114, 101, 32] from rfl, show ({ data := #[44, 32] } : ByteArray) = strOfNums [44, 32] from rfl]
  simp only [s_app]
  simp [Sy.insT, Sy.text, Sy.two, Sy.addrT, Sy.rT, Sy.kindT]
theorem tx_4 (op d : Int) (a b : Sy.Vl) (nm : List Int) (tg : Int) : ({ data := #[99, 109, 111, 118, 32] } : ByteArray) ++ strOfNums (Sy.rT d) ++ ({ data := #[44, 32] } : ByteArray) ++ strOfNums (Sy.two a b) = strOfNums (Sy.insT ⟨4, op, d, a, b, nm, tg⟩) := by
  rw [show ({ data := #[99, 109, 111, 118, 32] } : ByteArray) = strOfNums [99, 109, 111, 118, 32] from rfl, show ({ data := #[44, 32] } : ByteArray) = strOfNums [44, 32] from rfl]
  simp only [s_app]
  simp [Sy.insT, Sy.text, Sy.two, Sy.addrT, Sy.rT, Sy.kindT]
theorem tx_5 (op d : Int) (a b : Sy.Vl) (nm : List Int) (tg : Int) : ({ data := #[98, 114, 32] } : ByteArray) ++ strOfNums (Sy.opT op) ++ ({ data := #[32] } : ByteArray) ++ strOfNums (Sy.two a b) ++ ({ data := #[44, 32] } : ByteArray) ++ strOfNums (nm) = strOfNums (Sy.insT ⟨5, op, d, a, b, nm, tg⟩) := by
  rw [show ({ data := #[98, 114, 32] } : ByteArray) = strOfNums [98, 114, 32] from rfl, show ({ data := #[32] } : ByteArray) = strOfNums [32] from rfl, show ({ data := #[44, 32] } : ByteArray) = strOfNums [44, 32] from rfl]
  simp only [s_app]
  simp [Sy.insT, Sy.text, Sy.two, Sy.addrT, Sy.rT, Sy.kindT]
theorem tx_6 (op d : Int) (a b : Sy.Vl) (nm : List Int) (tg : Int) : ({ data := #[106, 109, 112, 32] } : ByteArray) ++ strOfNums (nm) = strOfNums (Sy.insT ⟨6, op, d, a, b, nm, tg⟩) := by
  rw [show ({ data := #[106, 109, 112, 32] } : ByteArray) = strOfNums [106, 109, 112, 32] from rfl]
  simp only [s_app]
  simp [Sy.insT, Sy.text, Sy.two, Sy.addrT, Sy.rT, Sy.kindT]
theorem tx_8 (op d : Int) (a b : Sy.Vl) (nm : List Int) (tg : Int) : ({ data := #[99, 97, 108, 108, 32] } : ByteArray) ++ strOfNums (nm) = strOfNums (Sy.insT ⟨8, op, d, a, b, nm, tg⟩) := by
  rw [show ({ data := #[99, 97, 108, 108, 32] } : ByteArray) = strOfNums [99, 97, 108, 108, 32] from rfl]
  simp only [s_app]
  simp [Sy.insT, Sy.text, Sy.two, Sy.addrT, Sy.rT, Sy.kindT]
theorem tx_7 (op d : Int) (a b : Sy.Vl) (nm : List Int) (tg : Int) : ({ data := #[105, 110, 100, 32] } : ByteArray) ++ strOfNums (Sy.vT a) = strOfNums (Sy.insT ⟨7, op, d, a, b, nm, tg⟩) := by
  rw [show ({ data := #[105, 110, 100, 32] } : ByteArray) = strOfNums [105, 110, 100, 32] from rfl]
  simp only [s_app]
  simp [Sy.insT, Sy.text, Sy.two, Sy.addrT, Sy.rT, Sy.kindT]
theorem tt_1 (n : Int) (sec : Bool) (nm : List Int) (ins : Sy.In) : ({ data := #[119, 105, 100, 116, 104, 32] } : ByteArray) ++ strOfNums (Sy.digits n) = strOfNums (Sy.text ⟨1, n, sec, nm, ins⟩) := by
  rw [show ({ data := #[119, 105, 100, 116, 104, 32] } : ByteArray) = strOfNums [119, 105, 100, 116, 104, 32] from rfl]
  simp only [s_app]
  simp [Sy.insT, Sy.text, Sy.two, Sy.addrT, Sy.rT, Sy.kindT]
theorem tt_2 (n : Int) (sec : Bool) (nm : List Int) (ins : Sy.In) : ({ data := #[119, 105, 110, 100, 111, 119, 32] } : ByteArray) ++ strOfNums (Sy.digits n) = strOfNums (Sy.text ⟨2, n, sec, nm, ins⟩) := by
  rw [show ({ data := #[119, 105, 110, 100, 111, 119, 32] } : ByteArray) = strOfNums [119, 105, 110, 100, 111, 119, 32] from rfl]
  simp only [s_app]
  simp [Sy.insT, Sy.text, Sy.two, Sy.addrT, Sy.rT, Sy.kindT]
theorem tt_3 (n : Int) (sec : Bool) (nm : List Int) (ins : Sy.In) : ({ data := #[102, 117, 101, 108, 32] } : ByteArray) ++ strOfNums (Sy.digits n) = strOfNums (Sy.text ⟨3, n, sec, nm, ins⟩) := by
  rw [show ({ data := #[102, 117, 101, 108, 32] } : ByteArray) = strOfNums [102, 117, 101, 108, 32] from rfl]
  simp only [s_app]
  simp [Sy.insT, Sy.text, Sy.two, Sy.addrT, Sy.rT, Sy.kindT]
theorem tt_4 (n : Int) (sec : Bool) (nm : List Int) (ins : Sy.In) : strOfNums (Sy.kindT sec) ++ ({ data := #[114] } : ByteArray) ++ strOfNums (Sy.digits ins.d) = strOfNums (Sy.text ⟨4, n, sec, nm, ins⟩) := by
  rw [show ({ data := #[114] } : ByteArray) = strOfNums [114] from rfl]
  simp only [s_app]
  simp [Sy.insT, Sy.text, Sy.two, Sy.addrT, Sy.rT, Sy.kindT]
theorem tt_5 (n : Int) (sec : Bool) (nm : List Int) (ins : Sy.In) : strOfNums (Sy.kindT sec) ++ strOfNums (nm) ++ ({ data := #[32] } : ByteArray) ++ strOfNums (Sy.digits n) = strOfNums (Sy.text ⟨5, n, sec, nm, ins⟩) := by
  rw [show ({ data := #[32] } : ByteArray) = strOfNums [32] from rfl]
  simp only [s_app]
  simp [Sy.insT, Sy.text, Sy.two, Sy.addrT, Sy.rT, Sy.kindT]
theorem tt_6 (n : Int) (sec : Bool) (nm : List Int) (ins : Sy.In) : strOfNums (nm) ++ ({ data := #[58] } : ByteArray) = strOfNums (Sy.text ⟨6, n, sec, nm, ins⟩) := by
  rw [show ({ data := #[58] } : ByteArray) = strOfNums [58] from rfl]
  simp only [s_app]
  simp [Sy.insT, Sy.text, Sy.two, Sy.addrT, Sy.rT, Sy.kindT]
set_option maxRecDepth 100000 in
set_option maxHeartbeats 20000000 in
theorem rins_text (i : Sy.In) (hd : I64 i.d) (ha : I64 i.a.n) (hb : I64 i.b.n) (hn : i.name.length ≤ 100000) (w : World) :
    Calls Tryd.prog 44 #[InV i] w (RetB (.string (strOfNums (Sy.insT i))) w) := by
  obtain ⟨kd, op, d, va, vb, nm, tg⟩ := i
  simp only at hd ha hb hn
  have z1 := digits_len d; have z2 := rT_len d; have z3 := vT_len va; have z4 := vT_len vb; have z5 := addrT_len va vb; have z6 := two_len va vb; have z7 := opT_len op
  have z8 : (strOfNums nm).size ≤ 100000 := by rw [strOfNums_size]; exact hn
  have q1 : ({ data := #[114] } : ByteArray) ++ strOfNums (Sy.digits d) = strOfNums (Sy.rT d) := reg_str _
  have q2 := tx_addr va vb; have q3 := tx_two va vb
  have hdg := fun W => rdigits_any d hd W
  have hva := fun W => rval_any va ha W
  have hvb := fun W => rval_any vb hb W
  have hop := fun W => ropName_any op W
  have HDG := Lib.hid hdg; have HVA := Lib.hid hva; have HVB := Lib.hid hvb; have HOP := Lib.hid hop
  clear hd ha hb hn hdg hva hvb hop
  have hB := heap_alloc_new w (.cells (InsC kd op d va vb (strOfNums nm) tg) 27)
  have hw := upA (up0 w) (.cells (InsC kd op d va vb (strOfNums nm) tg) 27)
  have hlt : w.heap.size < (w.alloc (.cells (InsC kd op d va vb (strOfNums nm) tg) 27)).heap.size := by simp
  go_enter Tryd.func44, Tryd.ntmps44
  go_wp2_with fail
  generalize w.alloc (.cells (InsC kd op d va vb (strOfNums nm) tg) 27) = W0 at *
  refine (HDG.out _).mono ?_
  rintro e w1 ⟨rfl, b1⟩
  have hB1 := (b1.block _ hlt).trans hB
  have hw1 := upT hw b1
  have c := fun k => cell_of_row _ _ k _ _ _ hB1
  clear hB hw hlt b1
  go_wp2_with fail
  refine wp_region_noPanic ?_
  refine wp_region_held_drew (S := fun w' => w'.cell? ⟨w.heap.size, 3, none⟩ = some (.bool va.reg) ∧ w'.cell? ⟨w.heap.size, 4, none⟩ = some (.int .i64 va.n) ∧ w'.cell? ⟨w.heap.size, 5, none⟩ = some (.bool vb.reg) ∧ w'.cell? ⟨w.heap.size, 6, none⟩ = some (.int .i64 vb.n)) (by kernel_rfl) ?_ (fun hHeld => ?_)
  · exact ⟨c 3, c 4, c 5, c 6⟩
  refine wpAnyH_take (i := 0) (oi := _) (v := ?_) rfl (by kernel_rfl) (by kernel_rfl) (by kernel_rfl) (fun _ _ _ h => h) (Or.inl ⟨by kernel_rfl, ?_⟩) (by assumption) ?_
  rotate_left
  · (intro w hSw; (try dsimp only at hSw); go_simp; try (with_reducible rfl))
  (try simp only [List.getElem_toArray, List.getElem_cons_succ, List.getElem_cons_zero, Act.put, List.setIfInBounds_toArray, List.set_cons_zero, List.set_cons_succ])
  refine wpAnyH_take (i := 1) (oi := _) (v := ?_) rfl (by kernel_rfl) (by kernel_rfl) (by kernel_rfl) (fun _ _ _ h => h) (Or.inl ⟨by kernel_rfl, ?_⟩) (by assumption) ?_
  rotate_left
  · (intro w hSw; (try dsimp only at hSw); go_simp; try (with_reducible rfl))
  (try simp only [List.getElem_toArray, List.getElem_cons_succ, List.getElem_cons_zero, Act.put, List.setIfInBounds_toArray, List.set_cons_zero, List.set_cons_succ])
  refine wpAnyH_take (i := 5) (oi := _) (v := ?_) rfl (by kernel_rfl) (by kernel_rfl) (by kernel_rfl) (fun _ _ _ h => h) (Or.inl ⟨by kernel_rfl, ?_⟩) (by assumption) ?_
  rotate_left
  · (intro w hSw; (try dsimp only at hSw); go_simp; try (with_reducible rfl))
  (try simp only [List.getElem_toArray, List.getElem_cons_succ, List.getElem_cons_zero, Act.put, List.setIfInBounds_toArray, List.set_cons_zero, List.set_cons_succ])
  refine wpAnyH_take (i := 6) (oi := _) (v := ?_) rfl (by kernel_rfl) (by kernel_rfl) (by kernel_rfl) (fun _ _ _ h => h) (Or.inl ⟨by kernel_rfl, ?_⟩) (by assumption) ?_
  rotate_left
  · (intro w hSw; (try dsimp only at hSw); go_simp; try (with_reducible rfl))
  (try simp only [List.getElem_toArray, List.getElem_cons_succ, List.getElem_cons_zero, Act.put, List.setIfInBounds_toArray, List.set_cons_zero, List.set_cons_succ])
  refine wpAnyH_ready (rs := [2]) (by kernel_rfl) (by simp) ?_
  refine AllReadyH.cons (o := _) rfl (fun K hK => ?_) AllReadyH.nil
  go_simp
  refine (HVA.out _).mono ?_
  rintro e wr2 ⟨rfl, br2⟩
  have hwr2 := upT hw1.drew br2
  have hBr2 := (br2.block _ (Array.getElem?_eq_some_iff.1 (show (w1).drew.heap[w.heap.size]? = _ from hB1)).1).trans (show (w1).drew.heap[w.heap.size]? = _ from hB1)
  have cr2 := fun k => cell_of_row _ _ k _ _ _ hBr2
  first | refine hK.out _ _ ?_ (fun hHeld => ?_) | (go_wp2_with fail; refine hK.out _ _ ?_ (fun hHeld => ?_))
  · exact ⟨cr2 3, cr2 4, cr2 5, cr2 6⟩
  clear hK K
  (try simp only [List.getElem_toArray, List.getElem_cons_succ, List.getElem_cons_zero, Act.put, List.setIfInBounds_toArray, List.set_cons_zero, List.set_cons_succ])
  refine wpAnyH_take (i := 3) (oi := _) (v := ?_) rfl (by kernel_rfl) (by kernel_rfl) (by kernel_rfl) (fun _ _ _ h => h) (Or.inl ⟨by kernel_rfl, ?_⟩) (by assumption) ?_
  rotate_left
  · (intro w hSw; (try dsimp only at hSw); go_simp; (try rw [if_neg (by first | omega | (simp only [ByteArray.size_append]; omega) | (simp only [ByteArray.size_append, ByteArray.size]; simp; omega))]); try (with_reducible rfl))
  (try simp only [List.getElem_toArray, List.getElem_cons_succ, List.getElem_cons_zero, Act.put, List.setIfInBounds_toArray, List.set_cons_zero, List.set_cons_succ])
  refine wpAnyH_take (i := 4) (oi := _) (v := ?_) rfl (by kernel_rfl) (by kernel_rfl) (by kernel_rfl) (fun _ _ _ h => h) (Or.inl ⟨by kernel_rfl, ?_⟩) (by assumption) ?_
  rotate_left
  · (intro w hSw; (try dsimp only at hSw); go_simp; (try rw [if_neg (by first | omega | (simp only [ByteArray.size_append]; omega) | (simp only [ByteArray.size_append, ByteArray.size]; simp; omega))]); try (with_reducible rfl))
  (try simp only [List.getElem_toArray, List.getElem_cons_succ, List.getElem_cons_zero, Act.put, List.setIfInBounds_toArray, List.set_cons_zero, List.set_cons_succ])
  refine wpAnyH_ready (rs := [7]) (by kernel_rfl) (by simp) ?_
  refine AllReadyH.cons (o := _) rfl (fun K hK => ?_) AllReadyH.nil
  go_simp
  refine (HVB.out _).mono ?_
  rintro e wr3 ⟨rfl, br3⟩
  have hwr3 := upT hwr2 br3
  have hBr3 := (br3.block _ (Array.getElem?_eq_some_iff.1 hBr2).1).trans hBr2
  have cr3 := fun k => cell_of_row _ _ k _ _ _ hBr3
  first | refine hK.out _ _ ?_ (fun hHeld => ?_) | (go_wp2_with fail; refine hK.out _ _ ?_ (fun hHeld => ?_))
  · exact ⟨cr3 3, cr3 4, cr3 5, cr3 6⟩
  clear hK K
  (try simp only [List.getElem_toArray, List.getElem_cons_succ, List.getElem_cons_zero, Act.put, List.setIfInBounds_toArray, List.set_cons_zero, List.set_cons_succ])
  refine wpAnyH_take (i := 8) (oi := _) (v := ?_) rfl (by kernel_rfl) (by kernel_rfl) (by kernel_rfl) (fun _ _ _ h => h) (Or.inl ⟨by kernel_rfl, ?_⟩) (by assumption) ?_
  rotate_left
  · (intro w hSw; (try dsimp only at hSw); go_simp; (try rw [if_neg (by first | omega | (simp only [ByteArray.size_append]; omega) | (simp only [ByteArray.size_append, ByteArray.size]; simp; omega))]); try (with_reducible rfl))
  (try simp only [List.getElem_toArray, List.getElem_cons_succ, List.getElem_cons_zero, Act.put, List.setIfInBounds_toArray, List.set_cons_zero, List.set_cons_succ])
  refine wpAnyH_take (i := 9) (oi := _) (v := ?_) rfl (by kernel_rfl) (by kernel_rfl) (by kernel_rfl) (fun _ _ _ h => h) (Or.inl ⟨by kernel_rfl, ?_⟩) (by assumption) ?_
  rotate_left
  · (intro w hSw; (try dsimp only at hSw); go_simp; (try rw [if_neg (by first | omega | (simp only [ByteArray.size_append]; omega) | (simp only [ByteArray.size_append, ByteArray.size]; simp; omega))]); try (with_reducible rfl))
  (try simp only [List.getElem_toArray, List.getElem_cons_succ, List.getElem_cons_zero, Act.put, List.setIfInBounds_toArray, List.set_cons_zero, List.set_cons_succ])
  refine wpAnyH_take (i := 10) (oi := _) (v := ?_) rfl (by kernel_rfl) (by kernel_rfl) (by kernel_rfl) (fun _ _ _ h => h) (Or.inl ⟨by kernel_rfl, ?_⟩) (by assumption) ?_
  rotate_left
  · (intro w hSw; (try dsimp only at hSw); go_simp; (try rw [if_neg (by first | omega | (simp only [ByteArray.size_append]; omega) | (simp only [ByteArray.size_append, ByteArray.size]; simp; omega))]); try (with_reducible rfl))
  (try simp only [List.getElem_toArray, List.getElem_cons_succ, List.getElem_cons_zero, Act.put, List.setIfInBounds_toArray, List.set_cons_zero, List.set_cons_succ])
  refine wpAnyH_done (by kernel_rfl) ?_ _
  refine NoPanic.normal ?_
  (try go_simp)
  clear hHeld br2 br3 hBr2 hwr2 cr2 c hB1 hw1
  go_wp2_with fail
  refine wp_region_noPanic ?_
  refine wp_region_held_drew (S := fun w' => w'.cell? ⟨w.heap.size, 3, none⟩ = some (.bool va.reg) ∧ w'.cell? ⟨w.heap.size, 4, none⟩ = some (.int .i64 va.n) ∧ w'.cell? ⟨w.heap.size, 5, none⟩ = some (.bool vb.reg) ∧ w'.cell? ⟨w.heap.size, 6, none⟩ = some (.int .i64 vb.n)) (by kernel_rfl) ?_ (fun hHeld => ?_)
  · exact ⟨cr3 3, cr3 4, cr3 5, cr3 6⟩
  refine wpAnyH_take (i := 0) (oi := _) (v := ?_) rfl (by kernel_rfl) (by kernel_rfl) (by kernel_rfl) (fun _ _ _ h => h) (Or.inl ⟨by kernel_rfl, ?_⟩) (by assumption) ?_
  rotate_left
  · (intro w hSw; (try dsimp only at hSw); go_simp; try (with_reducible rfl))
  (try simp only [List.getElem_toArray, List.getElem_cons_succ, List.getElem_cons_zero, Act.put, List.setIfInBounds_toArray, List.set_cons_zero, List.set_cons_succ])
  refine wpAnyH_take (i := 1) (oi := _) (v := ?_) rfl (by kernel_rfl) (by kernel_rfl) (by kernel_rfl) (fun _ _ _ h => h) (Or.inl ⟨by kernel_rfl, ?_⟩) (by assumption) ?_
  rotate_left
  · (intro w hSw; (try dsimp only at hSw); go_simp; try (with_reducible rfl))
  (try simp only [List.getElem_toArray, List.getElem_cons_succ, List.getElem_cons_zero, Act.put, List.setIfInBounds_toArray, List.set_cons_zero, List.set_cons_succ])
  refine wpAnyH_take (i := 4) (oi := _) (v := ?_) rfl (by kernel_rfl) (by kernel_rfl) (by kernel_rfl) (fun _ _ _ h => h) (Or.inl ⟨by kernel_rfl, ?_⟩) (by assumption) ?_
  rotate_left
  · (intro w hSw; (try dsimp only at hSw); go_simp; try (with_reducible rfl))
  (try simp only [List.getElem_toArray, List.getElem_cons_succ, List.getElem_cons_zero, Act.put, List.setIfInBounds_toArray, List.set_cons_zero, List.set_cons_succ])
  refine wpAnyH_take (i := 5) (oi := _) (v := ?_) rfl (by kernel_rfl) (by kernel_rfl) (by kernel_rfl) (fun _ _ _ h => h) (Or.inl ⟨by kernel_rfl, ?_⟩) (by assumption) ?_
  rotate_left
  · (intro w hSw; (try dsimp only at hSw); go_simp; try (with_reducible rfl))
  (try simp only [List.getElem_toArray, List.getElem_cons_succ, List.getElem_cons_zero, Act.put, List.setIfInBounds_toArray, List.set_cons_zero, List.set_cons_succ])
  refine wpAnyH_ready (rs := [2]) (by kernel_rfl) (by simp) ?_
  refine AllReadyH.cons (o := _) rfl (fun K hK => ?_) AllReadyH.nil
  go_simp
  refine (HVA.out _).mono ?_
  rintro e ws2 ⟨rfl, bs2⟩
  have hws2 := upT hwr3.drew bs2
  have hBs2 := (bs2.block _ (Array.getElem?_eq_some_iff.1 (show (wr3).drew.heap[w.heap.size]? = _ from hBr3)).1).trans (show (wr3).drew.heap[w.heap.size]? = _ from hBr3)
  have cs2 := fun k => cell_of_row _ _ k _ _ _ hBs2
  first | refine hK.out _ _ ?_ (fun hHeld => ?_) | (go_wp2_with fail; refine hK.out _ _ ?_ (fun hHeld => ?_))
  · exact ⟨cs2 3, cs2 4, cs2 5, cs2 6⟩
  clear hK K
  (try simp only [List.getElem_toArray, List.getElem_cons_succ, List.getElem_cons_zero, Act.put, List.setIfInBounds_toArray, List.set_cons_zero, List.set_cons_succ])
  refine wpAnyH_take (i := 3) (oi := _) (v := ?_) rfl (by kernel_rfl) (by kernel_rfl) (by kernel_rfl) (fun _ _ _ h => h) (Or.inl ⟨by kernel_rfl, ?_⟩) (by assumption) ?_
  rotate_left
  · (intro w hSw; (try dsimp only at hSw); go_simp; (try rw [if_neg (by first | omega | (simp only [ByteArray.size_append]; omega) | (simp only [ByteArray.size_append, ByteArray.size]; simp; omega))]); try (with_reducible rfl))
  (try simp only [List.getElem_toArray, List.getElem_cons_succ, List.getElem_cons_zero, Act.put, List.setIfInBounds_toArray, List.set_cons_zero, List.set_cons_succ])
  refine wpAnyH_ready (rs := [6]) (by kernel_rfl) (by simp) ?_
  refine AllReadyH.cons (o := _) rfl (fun K hK => ?_) AllReadyH.nil
  go_simp
  refine (HVB.out _).mono ?_
  rintro e ws3 ⟨rfl, bs3⟩
  have hws3 := upT hws2 bs3
  have hBs3 := (bs3.block _ (Array.getElem?_eq_some_iff.1 hBs2).1).trans hBs2
  have cs3 := fun k => cell_of_row _ _ k _ _ _ hBs3
  first | refine hK.out _ _ ?_ (fun hHeld => ?_) | (go_wp2_with fail; refine hK.out _ _ ?_ (fun hHeld => ?_))
  · exact ⟨cs3 3, cs3 4, cs3 5, cs3 6⟩
  clear hK K
  (try simp only [List.getElem_toArray, List.getElem_cons_succ, List.getElem_cons_zero, Act.put, List.setIfInBounds_toArray, List.set_cons_zero, List.set_cons_succ])
  refine wpAnyH_take (i := 7) (oi := _) (v := ?_) rfl (by kernel_rfl) (by kernel_rfl) (by kernel_rfl) (fun _ _ _ h => h) (Or.inl ⟨by kernel_rfl, ?_⟩) (by assumption) ?_
  rotate_left
  · (intro w hSw; (try dsimp only at hSw); go_simp; (try rw [if_neg (by first | omega | (simp only [ByteArray.size_append]; omega) | (simp only [ByteArray.size_append, ByteArray.size]; simp; omega))]); try (with_reducible rfl))
  (try simp only [List.getElem_toArray, List.getElem_cons_succ, List.getElem_cons_zero, Act.put, List.setIfInBounds_toArray, List.set_cons_zero, List.set_cons_succ])
  refine wpAnyH_take (i := 8) (oi := _) (v := ?_) rfl (by kernel_rfl) (by kernel_rfl) (by kernel_rfl) (fun _ _ _ h => h) (Or.inl ⟨by kernel_rfl, ?_⟩) (by assumption) ?_
  rotate_left
  · (intro w hSw; (try dsimp only at hSw); go_simp; (try rw [if_neg (by first | omega | (simp only [ByteArray.size_append]; omega) | (simp only [ByteArray.size_append, ByteArray.size]; simp; omega))]); try (with_reducible rfl))
  (try simp only [List.getElem_toArray, List.getElem_cons_succ, List.getElem_cons_zero, Act.put, List.setIfInBounds_toArray, List.set_cons_zero, List.set_cons_succ])
  refine wpAnyH_done (by kernel_rfl) ?_ _
  refine NoPanic.normal ?_
  (try go_simp)
  clear hHeld bs2 bs3 hBs2 hws2 cs2 cr3 hBr3 hwr3 q1 q2 q3
  go_upto_region 5 with fail
  by_cases k1 : kd = 1
  · subst k1
    have qk := tx_1 op d va vb nm tg
    go_wp2_with (go_at_call 64; refine (HOP.out _).mono ?_; rintro e w7 ⟨rfl, b7⟩)
    go_ret
    exact ⟨rfl, upT hws3 b7⟩
  have n1 : (kd == 1) = false := by simpa using k1
  by_cases k2 : kd = 2
  · subst k2
    have qk := tx_2 op d va vb nm tg
    go_wp2_with fail
    go_ret
    exact ⟨rfl, hws3⟩
  have n2 : (kd == 2) = false := by simpa using k2
  by_cases k3 : kd = 3
  · subst k3
    have qk := tx_3 op d va vb nm tg
    go_wp2_with fail
    go_ret
    exact ⟨rfl, hws3⟩
  have n3 : (kd == 3) = false := by simpa using k3
  by_cases k4 : kd = 4
  · subst k4
    have qk := tx_4 op d va vb nm tg
    go_wp2_with fail
    go_ret
    exact ⟨rfl, hws3⟩
  have n4 : (kd == 4) = false := by simpa using k4
  by_cases k5 : kd = 5
  · subst k5
    have qk := tx_5 op d va vb nm tg
    go_wp2_with fail
    refine wp_region_noPanic ?_
    refine wp_region_held_drew (S := fun w' => w'.cell? ⟨w.heap.size, 1, none⟩ = some (.int .i64 op) ∧ w'.cell? ⟨w.heap.size, 5 + 2, none⟩ = some (.string (strOfNums nm))) (by kernel_rfl) ?_ (fun hHeld => ?_)
    · exact ⟨cs3 1, cs3 7⟩
    refine wpAnyH_take (i := 0) (oi := _) (v := ?_) rfl (by kernel_rfl) (by kernel_rfl) (by kernel_rfl) (fun _ _ _ h => h) (Or.inl ⟨by kernel_rfl, ?_⟩) (by assumption) ?_
    rotate_left
    · (intro w hSw; (try dsimp only at hSw); go_simp; try (with_reducible rfl))
    (try simp only [List.getElem_toArray, List.getElem_cons_succ, List.getElem_cons_zero, Act.put, List.setIfInBounds_toArray, List.set_cons_zero, List.set_cons_succ])
    refine wpAnyH_take (i := 1) (oi := _) (v := ?_) rfl (by kernel_rfl) (by kernel_rfl) (by kernel_rfl) (fun _ _ _ h => h) (Or.inl ⟨by kernel_rfl, ?_⟩) (by assumption) ?_
    rotate_left
    · (intro w hSw; (try dsimp only at hSw); go_simp; try (with_reducible rfl))
    (try simp only [List.getElem_toArray, List.getElem_cons_succ, List.getElem_cons_zero, Act.put, List.setIfInBounds_toArray, List.set_cons_zero, List.set_cons_succ])
    refine wpAnyH_take (i := 5) (oi := _) (v := ?_) rfl (by kernel_rfl) (by kernel_rfl) (by kernel_rfl) (fun _ _ _ h => h) (Or.inl ⟨by kernel_rfl, ?_⟩) (by assumption) ?_
    rotate_left
    · (intro w hSw; (try dsimp only at hSw); go_simp; try (with_reducible rfl))
    (try simp only [List.getElem_toArray, List.getElem_cons_succ, List.getElem_cons_zero, Act.put, List.setIfInBounds_toArray, List.set_cons_zero, List.set_cons_succ])
    refine wpAnyH_take (i := 8) (oi := _) (v := ?_) rfl (by kernel_rfl) (by kernel_rfl) (by kernel_rfl) (fun _ _ _ h => h) (Or.inl ⟨by kernel_rfl, ?_⟩) (by assumption) ?_
    rotate_left
    · (intro w hSw; (try dsimp only at hSw); go_simp; try (with_reducible rfl))
    (try simp only [List.getElem_toArray, List.getElem_cons_succ, List.getElem_cons_zero, Act.put, List.setIfInBounds_toArray, List.set_cons_zero, List.set_cons_succ])
    refine wpAnyH_take (i := 9) (oi := _) (v := ?_) rfl (by kernel_rfl) (by kernel_rfl) (by kernel_rfl) (fun _ _ _ h => h) (Or.inl ⟨by kernel_rfl, ?_⟩) (by assumption) ?_
    rotate_left
    · (intro w hSw; (try dsimp only at hSw); go_simp; try (with_reducible rfl))
    (try simp only [List.getElem_toArray, List.getElem_cons_succ, List.getElem_cons_zero, Act.put, List.setIfInBounds_toArray, List.set_cons_zero, List.set_cons_succ])
    refine wpAnyH_ready (rs := [2]) (by kernel_rfl) (by simp) ?_
    refine AllReadyH.cons (o := _) rfl (fun K hK => ?_) AllReadyH.nil
    go_simp
    refine (HOP.out _).mono ?_
    rintro e w7 ⟨rfl, b7⟩
    have hw7 := upT hws3.drew b7
    have hB7 := (b7.block _ (Array.getElem?_eq_some_iff.1 (show ws3.drew.heap[w.heap.size]? = _ from hBs3)).1).trans hBs3
    have c7 := fun k => cell_of_row _ _ k _ _ _ hB7
    first | refine hK.out _ _ ?_ (fun hHeld => ?_) | (go_wp2_with fail; refine hK.out _ _ ?_ (fun hHeld => ?_))
    · exact ⟨c7 1, c7 7⟩
    clear hK K
    (try simp only [List.getElem_toArray, List.getElem_cons_succ, List.getElem_cons_zero, Act.put, List.setIfInBounds_toArray, List.set_cons_zero, List.set_cons_succ])
    refine wpAnyH_take (i := 3) (oi := _) (v := ?_) rfl (by kernel_rfl) (by kernel_rfl) (by kernel_rfl) (fun _ _ _ h => h) (Or.inl ⟨by kernel_rfl, ?_⟩) (by assumption) ?_
    rotate_left
    · (intro w hSw; (try dsimp only at hSw); go_simp; (try rw [if_neg (by first | omega | (simp only [ByteArray.size_append]; omega) | (simp only [ByteArray.size_append, ByteArray.size]; simp; omega))]); try (with_reducible rfl))
    (try simp only [List.getElem_toArray, List.getElem_cons_succ, List.getElem_cons_zero, Act.put, List.setIfInBounds_toArray, List.set_cons_zero, List.set_cons_succ])
    refine wpAnyH_take (i := 4) (oi := _) (v := ?_) rfl (by kernel_rfl) (by kernel_rfl) (by kernel_rfl) (fun _ _ _ h => h) (Or.inl ⟨by kernel_rfl, ?_⟩) (by assumption) ?_
    rotate_left
    · (intro w hSw; (try dsimp only at hSw); go_simp; (try rw [if_neg (by first | omega | (simp only [ByteArray.size_append]; omega) | (simp only [ByteArray.size_append, ByteArray.size]; simp; omega))]); try (with_reducible rfl))
    (try simp only [List.getElem_toArray, List.getElem_cons_succ, List.getElem_cons_zero, Act.put, List.setIfInBounds_toArray, List.set_cons_zero, List.set_cons_succ])
    refine wpAnyH_take (i := 6) (oi := _) (v := ?_) rfl (by kernel_rfl) (by kernel_rfl) (by kernel_rfl) (fun _ _ _ h => h) (Or.inl ⟨by kernel_rfl, ?_⟩) (by assumption) ?_
    rotate_left
    · (intro w hSw; (try dsimp only at hSw); go_simp; (try rw [if_neg (by first | omega | (simp only [ByteArray.size_append]; omega) | (simp only [ByteArray.size_append, ByteArray.size]; simp; omega))]); try (with_reducible rfl))
    (try simp only [List.getElem_toArray, List.getElem_cons_succ, List.getElem_cons_zero, Act.put, List.setIfInBounds_toArray, List.set_cons_zero, List.set_cons_succ])
    refine wpAnyH_take (i := 7) (oi := _) (v := ?_) rfl (by kernel_rfl) (by kernel_rfl) (by kernel_rfl) (fun _ _ _ h => h) (Or.inl ⟨by kernel_rfl, ?_⟩) (by assumption) ?_
    rotate_left
    · (intro w hSw; (try dsimp only at hSw); go_simp; (try rw [if_neg (by first | omega | (simp only [ByteArray.size_append]; omega) | (simp only [ByteArray.size_append, ByteArray.size]; simp; omega))]); try (with_reducible rfl))
    (try simp only [List.getElem_toArray, List.getElem_cons_succ, List.getElem_cons_zero, Act.put, List.setIfInBounds_toArray, List.set_cons_zero, List.set_cons_succ])
    refine wpAnyH_take (i := 10) (oi := _) (v := ?_) rfl (by kernel_rfl) (by kernel_rfl) (by kernel_rfl) (fun _ _ _ h => h) (Or.inl ⟨by kernel_rfl, ?_⟩) (by assumption) ?_
    rotate_left
    · (intro w hSw; (try dsimp only at hSw); go_simp; (try rw [if_neg (by first | omega | (simp only [ByteArray.size_append]; omega) | (simp only [ByteArray.size_append, ByteArray.size]; simp; omega))]); try (with_reducible rfl))
    (try simp only [List.getElem_toArray, List.getElem_cons_succ, List.getElem_cons_zero, Act.put, List.setIfInBounds_toArray, List.set_cons_zero, List.set_cons_succ])
    refine wpAnyH_take (i := 11) (oi := _) (v := ?_) rfl (by kernel_rfl) (by kernel_rfl) (by kernel_rfl) (fun _ _ _ h => h) (Or.inl ⟨by kernel_rfl, ?_⟩) (by assumption) ?_
    rotate_left
    · (intro w hSw; (try dsimp only at hSw); go_simp; (try rw [if_neg (by first | omega | (simp only [ByteArray.size_append]; omega) | (simp only [ByteArray.size_append, ByteArray.size]; simp; omega))]); try (with_reducible rfl))
    (try simp only [List.getElem_toArray, List.getElem_cons_succ, List.getElem_cons_zero, Act.put, List.setIfInBounds_toArray, List.set_cons_zero, List.set_cons_succ])
    refine wpAnyH_done (by kernel_rfl) ?_ _
    refine NoPanic.normal ?_
    (try go_simp)
    go_wp2_with fail
    go_ret
    exact ⟨rfl, hw7⟩
  have n5 : (kd == 5) = false := by simpa using k5
  by_cases k6 : kd = 6
  · subst k6
    have qk := tx_6 op d va vb nm tg
    go_wp2_with fail
    go_ret
    exact ⟨rfl, hws3⟩
  have n6 : (kd == 6) = false := by simpa using k6
  by_cases k8 : kd = 8
  · subst k8
    have qk := tx_8 op d va vb nm tg
    go_wp2_with fail
    go_ret
    exact ⟨rfl, hws3⟩
  have n8 : (kd == 8) = false := by simpa using k8
  by_cases k7 : kd = 7
  · subst k7
    have qk := tx_7 op d va vb nm tg
    go_wp2_with (go_at_call 63; refine (HVA.out _).mono ?_; rintro e w7 ⟨rfl, b7⟩)
    go_ret
    exact ⟨rfl, upT hws3 b7⟩
  have n7 : (kd == 7) = false := by simpa using k7
  by_cases k9 : kd = 9
  · subst k9
    go_wp2_with fail
    go_ret
    exact ⟨rfl, hws3⟩
  have n9 : (kd == 9) = false := by simpa using k9
  by_cases k10 : kd = 10
  · subst k10
    go_wp2_with fail
    go_ret
    exact ⟨rfl, hws3⟩
  have n10 : (kd == 10) = false := by simpa using k10
  by_cases k11 : kd = 11
  · subst k11
    go_wp2_with fail
    go_ret
    exact ⟨rfl, hws3⟩
  have n11 : (kd == 11) = false := by simpa using k11
  have hv : Sy.insT ⟨kd, op, d, va, vb, nm, tg⟩ = [63] := by
    unfold Sy.insT
    simp only [if_neg k1, if_neg k2, if_neg k3, if_neg k4, if_neg k5, if_neg k6, if_neg k7, if_neg k8, if_neg k9, if_neg k10, if_neg k11]
  clear k1 k2 k3 k4 k5 k6 k7 k8 k9 k10 k11
  go_wp2_with fail
  go_ret
  exact ⟨by rw [hv]; rfl, hws3⟩
end
end Go.Proofs.YtcpbbkpfickfiaaDoor
