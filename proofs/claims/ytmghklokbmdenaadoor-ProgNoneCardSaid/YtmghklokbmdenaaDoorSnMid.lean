/- The landed syns: valOf, isName, take, fit, Parse. -/
import Derived.Test.YtmghklokbmdenaaDoorSnSmall
import Derived.Test.YtmghklokbmdenaaDoorMgLn
import Derived.Deep.RegionHeld3
import Derived.OrdersHeld
import Derived.Test.YtmghklokbmdenaaDoorMgSn
import Derived.BigQuiet
import Derived.Deep.QuietTactic
import Derived.Test.YtmghklokbmdenaaDoorMgLk
import Derived.Test.YtmghklokbmdenaaDoorSnShelf
set_option linter.unusedVariables false
set_option linter.unusedSimpArgs false
namespace Go.Proofs.YtmghklokbmdenaaDoor
section
open Go.RowKit
set_option maxRecDepth 100000 in
set_option maxHeartbeats 4000000 in
theorem isName_any (kd : Int) (tx : List Int) (n : Int) (p : Nat) (w : World) (T : Sn.Tab w) (ht : ∀ y ∈ tx, 0 ≤ y ∧ y < 256) : Calls Tryd.prog 58 #[TV ⟨kd, tx, n, p⟩] w (RetB (.bool (Sn.isNm ⟨kd, tx, n, p⟩)) w) := by
  have hrg := fun W => reg_any tx W ht
  have hwd := fun W TT => word_any tx W TT ht
  have HRG := Lib.hid hrg; have HWD := Lib.hid hwd; have HT := Lib.hid T
  clear hrg hwd T
  unfold Sn.isNm
  simp only
  by_cases hk : kd = 1
  · subst hk
    by_cases hr : 0 ≤ Sy.regN tx
    · have HR := Lib.hid (decide_eq_true hr)
      clear hr
      go_enter Tryd.func58, Tryd.ntmps58
      go_wp2_with (go_at_call 60; refine (HRG.out _).mono ?_; rintro e w3 ⟨rfl, rfl⟩; rw [HR.out])
      go_ret
      refine ⟨?_, upA (up0 w) _⟩
      rw [HR.out]
      rfl
    · have HR := Lib.hid (decide_eq_false hr)
      clear hr
      go_enter Tryd.func58, Tryd.ntmps58
      go_wp2_with (first
        | (go_at_call 60; refine (HRG.out _).mono ?_; rintro e w3 ⟨rfl, rfl⟩; rw [HR.out])
        | (go_at_call 68; refine (HWD.out _ (HT.out.below (upA (up0 w) _))).mono ?_; rintro e w4 ⟨rfl, hb4⟩))
      go_ret
      refine ⟨?_, upT (upA (up0 w) _) hb4⟩
      rw [HR.out]
      rfl
  · have hk2 : (kd == 1) = false := by simpa using hk
    have HK := Lib.hid (decide_eq_false hk)
    go_enter Tryd.func58, Tryd.ntmps58
    go_wp2_with (go_at_call 60; refine (HRG.out _).mono ?_; rintro e w3 ⟨rfl, rfl⟩)
    go_ret
    refine ⟨?_, upA (up0 w) _⟩
    rw [HK.out]
    rfl
theorem upS {a b : World} (h : Below a.heap.size a b) (g : Nat) (hg : a.heap.size ≤ g) (cs : Array Value) : Below a.heap.size a (b.setRow g cs) :=
  ⟨h.os, h.tape, h.output, by simpa using h.size, fun k hk => (setRow_other _ _ _ _ (by omega)).trans (h.block k hk)⟩
theorem resV2 {fn : Func} {p u : Tmp} (h : fn.results = #[.cell p 40, .tmp u]) (tmps : Array Value) (w : World) (g : Nat) (t : TypeId) (c0 c1 : Value) (fr : Nat × Nat)
    (hp : tmps.getD p undef = .pointer (some ⟨g, 0, none⟩)) (hg : w.heap[g]? = some (.cells #[c0, c1] t fr)) : (results fn tmps).run Tryd.prog w = .ok (.tuple #[.agg #[c0, c1], tmps.getD u undef]) w := by
  rw [results_cell_tmp h, hp]
  simp only [asAddr, Sem.run_pure, Result.andThen_ok]
  rw [run_loadVar_row w g t 40 _ fr _ hg Tryd.underlying40 rfl infoV]
  rfl
set_option maxRecDepth 100000 in
set_option maxHeartbeats 4000000 in
theorem val_any (kd : Int) (tx : List Int) (n : Int) (p : Nat) (w : World) (ht : ∀ y ∈ tx, 0 ≤ y ∧ y < 256) : Calls Tryd.prog 61 #[TV ⟨kd, tx, n, p⟩] w (RetB (.tuple #[VV (Sn.vlv ⟨kd, tx, n, p⟩), .bool (Sn.vok ⟨kd, tx, n, p⟩)]) w) := by
  have hrg := fun W => reg_any tx W ht
  have HRG := Lib.hid hrg
  clear hrg
  have hrow : ∀ o, ((w.alloc o).alloc (.cells #[.bool false, .int .i64 0] 40)).heap[w.heap.size + 1]? = some (.cells #[.bool false, .int .i64 0] 40 (0, 0)) := fun o => by
    have := heap_alloc_new (w.alloc o) (.cells #[.bool false, .int .i64 0] 40)
    simpa using this
  have HROW := Lib.hid hrow
  clear hrow
  unfold Sn.vlv Sn.vok
  simp only
  by_cases hk : kd = 2
  · subst hk
    rw [if_pos rfl]
    go_enter Tryd.func61, Tryd.ntmps61
    go_wp2_with (refine wp_storeV (o := ⟨none, .store 40 (.tmp 2) (.tmp 11), _, _, _, none⟩) rfl _ _ rfl (w.heap.size + 1) _ _ rfl rfl _ _ _ (HROW.out _) rfl rfl ?_)
    (try simp only [Exit.inBlock, Exit.then])
    refine bodyPost_ret (resV2 rfl _ _ _ _ _ _ _ rfl (setRow_heap _ _ _ _ _ _ (HROW.out _))) rfl ?_
    exact ⟨rfl, upS (upA (upA (up0 w) _) _) _ (by omega) _⟩
  · have hk2 : (kd == 2) = false := by simpa using hk
    have HK := Lib.hid (decide_eq_false hk)
    rw [if_neg hk, HK.out]
    have hq : IB (Sn.rv tx) (decide (0 ≤ Sy.regN tx)) = IB (if 0 ≤ Sy.regN tx then (⟨true, Sy.regN tx⟩ : Sy.Vl) else Sy.v0).n (if 0 ≤ Sy.regN tx then (⟨true, Sy.regN tx⟩ : Sy.Vl) else Sy.v0).reg := by
      unfold Sn.rv
      split
      · rename_i h; rw [decide_eq_true h]
      · rename_i h; rw [decide_eq_false h]; rfl
    have hb : decide (0 ≤ Sy.regN tx) = (if 0 ≤ Sy.regN tx then (⟨true, Sy.regN tx⟩ : Sy.Vl) else Sy.v0).reg := by
      split
      · rename_i h; rw [decide_eq_true h]
      · rename_i h; rw [decide_eq_false h]; rfl
    rw [hb, Bool.false_or]
    have HQ := Lib.hid hq
    clear hq hb
    generalize (if 0 ≤ Sy.regN tx then (⟨true, Sy.regN tx⟩ : Sy.Vl) else Sy.v0) = V at *
    go_enter Tryd.func61, Tryd.ntmps61
    go_wp2_with (first
      | (go_at_call 60; refine (HRG.out _).mono ?_; rintro e w3 ⟨rfl, rfl⟩; rw [HQ.out])
      | (refine wp_storeV (o := ⟨none, .store 40 (.tmp 2) (.tmp 20), _, _, _, none⟩) rfl _ _ rfl (w.heap.size + 1) _ _ rfl rfl _ _ _ (HROW.out _) rfl rfl ?_))
    (try simp only [Exit.inBlock, Exit.then])
    refine bodyPost_ret (resV2 rfl _ _ _ _ _ _ _ rfl (setRow_heap _ _ _ _ _ _ (HROW.out _))) rfl ?_
    exact ⟨rfl, upS (upA (upA (up0 w) _) _) _ (by omega) _⟩
end
section
open Go.RowKit
/-- an item's cells -/
abbrev ItC (i : Sy.It) : Array Value := #[.int .i64 i.kind, .int .i64 i.n, .bool i.secret, .string (strOfNums i.name), .int .i64 i.ins.kind, .int .i64 i.ins.op, .int .i64 i.ins.d, .bool i.ins.a.reg, .int .i64 i.ins.a.n, .bool i.ins.b.reg, .int .i64 i.ins.b.n, .string (strOfNums i.ins.name), .int .i64 i.ins.target]
abbrev ItV (i : Sy.It) : Value := .agg (ItC i)
abbrev ItB (w : World) (g : Nat) (i : Sy.It) : Prop := w.heap[g]? = some (.cells (ItC i) 55 (0, 0))
/-- what take hands back, and what it leaves -/
def TakeP (w : World) (g : Nat) (x : Sy.It × Bool) (e : Ending) (w' : World) : Prop := e = .returned (.bool x.2) ∧ ItB w' g x.1 ∧ Fg g w w'
theorem Fg.setCell {g : Nat} {a b : World} (h : Fg g a b) {cs : Array Value} {t : TypeId} (hb : b.heap[g]? = some (.cells cs t (0, 0))) (k : Nat) (v : Value) : Fg g a (b.setCell ⟨g, k, none⟩ v) := by
  rw [setCell_eq_setRow _ _ _ _ _ _ v hb]
  exact h.setRow' _
theorem it_set {w : World} {g : Nat} {i : Sy.It} (h : ItB w g i) (k : Nat) (v : Value) : (w.setCell ⟨g, k, none⟩ v).heap[g]? = some (.cells ((ItC i).setIfInBounds k v) 55 (0, 0)) := by
  rw [setCell_eq_setRow _ _ _ _ _ _ v h]
  exact setRow_heap _ _ _ _ _ _ h
theorem cells_set {w : World} {g : Nat} {cs : Array Value} {ty : TypeId} (h : w.heap[g]? = some (.cells cs ty (0, 0))) (k : Nat) (v : Value) : (w.setCell ⟨g, k, none⟩ v).heap[g]? = some (.cells (cs.setIfInBounds k v) ty (0, 0)) := by
  rw [setCell_eq_setRow _ _ _ _ _ _ v h]
  exact setRow_heap _ _ _ _ _ _ h
theorem it_setA {w : World} {g : Nat} {i : Sy.It} (h : ItB w g i) (k : Nat) (v : Value) (o : Obj) : ((w.setCell ⟨g, k, none⟩ v).alloc o).heap[g]? = some (.cells ((ItC i).setIfInBounds k v) 55 (0, 0)) :=
  (heap_alloc_old _ _ (by have := (Array.getElem?_eq_some_iff.1 h).1; simpa using this)).trans (it_set h k v)
theorem it_fgA {w : World} {g : Nat} {i : Sy.It} (h : ItB w g i) (k : Nat) (v : Value) (o : Obj) : Fg g w ((w.setCell ⟨g, k, none⟩ v).alloc o) :=
  ((Fg.refl g w).setCell h k v).up (upA (up0 _) _)
set_option maxRecDepth 100000 in
set_option maxHeartbeats 4000000 in
theorem take_D (w : World) (g : Nat) (i : Sy.It) (kd : Int) (tx : List Int) (n : Int) (p : Nat) (T : Sn.Tab w) (hI : ItB w g i) (ht : ∀ y ∈ tx, 0 ≤ y ∧ y < 256) :
    Calls Tryd.prog 43 #[.pointer (some ⟨g, 0, none⟩), .int .i32 68, TV ⟨kd, tx, n, p⟩] w (TakeP w g (Sn.take i 68 ⟨kd, tx, n, p⟩)) := by
  have hA : Sn.take i 68 ⟨kd, tx, n, p⟩ = ({ i with ins := { i.ins with d := Sn.rv tx } }, decide (0 ≤ Sy.regN tx)) := rfl
  rw [hA]
  clear hA
  have hgl := (Array.getElem?_eq_some_iff.1 hI).1
  have hrg := fun W => reg_any tx W ht
  have HRG := Lib.hid hrg
  clear hrg
  have hI1 : ∀ o, ItB (w.alloc o) g i := fun o => (heap_alloc_old _ _ hgl).trans hI
  have HI := Lib.hid hI1; have HI0 := Lib.hid hI
  have z := fun o k => frozen_of_row (w.alloc o) g k _ _ (hI1 o)
  have c := fun o k => cell_of_row (w.alloc o) g k _ _ _ (hI1 o)
  clear hI1 hI
  go_enter Tryd.func43, Tryd.ntmps43
  go_wp2_with (go_at_call 60; refine (HRG.out _).mono ?_; rintro e w3 ⟨rfl, rfl⟩)
  go_ret
  exact ⟨rfl, it_setA HI0.out 6 _ _, it_fgA HI0.out 6 _ _⟩
set_option maxRecDepth 100000 in
set_option maxHeartbeats 4000000 in
theorem take_O (w : World) (g : Nat) (i : Sy.It) (kd : Int) (tx : List Int) (n : Int) (p : Nat) (T : Sn.Tab w) (hI : ItB w g i) (ht : ∀ y ∈ tx, 0 ≤ y ∧ y < 256) :
    Calls Tryd.prog 43 #[.pointer (some ⟨g, 0, none⟩), .int .i32 79, TV ⟨kd, tx, n, p⟩] w (TakeP w g (Sn.take i 79 ⟨kd, tx, n, p⟩)) := by
  have hA : Sn.take i 79 ⟨kd, tx, n, p⟩ = ({ i with ins := { i.ins with op := Sy.opN tx } }, decide (0 < Sy.opN tx)) := rfl
  rw [hA]
  clear hA
  have hgl := (Array.getElem?_eq_some_iff.1 hI).1
  have hop := fun W TT => op_any tx W TT ht
  have HOP := Lib.hid hop
  clear hop
  have facts : ∀ {w4 : World} {o : Obj}, Below (w.alloc o).heap.size (w.alloc o) w4 → ItB w4 g i ∧ Fg g w w4 := fun {w4 o} hb4 =>
    ⟨(hb4.block g (by simp; omega)).trans ((heap_alloc_old _ _ hgl).trans hI), (Fg.refl g w).up (upT (upA (up0 w) _) hb4)⟩
  go_enter Tryd.func43, Tryd.ntmps43
  go_wp2_with (go_at_call 59; refine (HOP.out _ (T.below (upA (up0 w) _))).mono ?_; rintro e w4 ⟨rfl, hb4⟩; obtain ⟨h4, f4⟩ := facts hb4; have z := fun k => frozen_of_row w4 g k _ _ h4; have c := fun k => cell_of_row w4 g k _ _ _ h4)
  go_ret
  exact ⟨rfl, it_set h4 5 _, f4.setCell h4 5 _⟩
set_option maxRecDepth 100000 in
set_option maxHeartbeats 4000000 in
theorem take_A (w : World) (g : Nat) (i : Sy.It) (kd : Int) (tx : List Int) (n : Int) (p : Nat) (T : Sn.Tab w) (hI : ItB w g i) (ht : ∀ y ∈ tx, 0 ≤ y ∧ y < 256) :
    Calls Tryd.prog 43 #[.pointer (some ⟨g, 0, none⟩), .int .i32 65, TV ⟨kd, tx, n, p⟩] w (TakeP w g (Sn.take i 65 ⟨kd, tx, n, p⟩)) := by
  have hA : Sn.take i 65 ⟨kd, tx, n, p⟩ = ({ i with ins := { i.ins with a := Sn.vlv ⟨kd, tx, n, p⟩ } }, Sn.vok ⟨kd, tx, n, p⟩) := rfl
  rw [hA]
  clear hA
  have hgl := (Array.getElem?_eq_some_iff.1 hI).1
  have hvl := fun W => val_any kd tx n p W ht
  have HVL := Lib.hid hvl
  clear hvl
  generalize Sn.vlv ⟨kd, tx, n, p⟩ = V at *
  generalize Sn.vok ⟨kd, tx, n, p⟩ = O at *
  have facts : ∀ {w4 : World} {o : Obj}, Below (w.alloc o).heap.size (w.alloc o) w4 → ItB w4 g i ∧ Fg g w w4 := fun {w4 o} hb4 =>
    ⟨(hb4.block g (by simp; omega)).trans ((heap_alloc_old _ _ hgl).trans hI), (Fg.refl g w).up (upT (upA (up0 w) _) hb4)⟩
  go_enter Tryd.func43, Tryd.ntmps43
  go_wp2_with (go_at_call 61; refine (HVL.out _).mono ?_; rintro e w4 ⟨rfl, hb4⟩; obtain ⟨h4, f4⟩ := facts hb4; have z := fun k => frozen_of_row w4 g k _ _ h4; have c := fun k => cell_of_row w4 g k _ _ _ h4)
  go_ret
  exact ⟨rfl, cells_set (cells_set h4 7 _) 8 _, (f4.setCell h4 7 _).setCell (cells_set h4 7 _) 8 _⟩
set_option maxRecDepth 100000 in
set_option maxHeartbeats 4000000 in
theorem take_B (w : World) (g : Nat) (i : Sy.It) (kd : Int) (tx : List Int) (n : Int) (p : Nat) (T : Sn.Tab w) (hI : ItB w g i) (ht : ∀ y ∈ tx, 0 ≤ y ∧ y < 256) :
    Calls Tryd.prog 43 #[.pointer (some ⟨g, 0, none⟩), .int .i32 66, TV ⟨kd, tx, n, p⟩] w (TakeP w g (Sn.take i 66 ⟨kd, tx, n, p⟩)) := by
  have hA : Sn.take i 66 ⟨kd, tx, n, p⟩ = ({ i with ins := { i.ins with b := Sn.vlv ⟨kd, tx, n, p⟩ } }, Sn.vok ⟨kd, tx, n, p⟩) := rfl
  rw [hA]
  clear hA
  have hgl := (Array.getElem?_eq_some_iff.1 hI).1
  have hvl := fun W => val_any kd tx n p W ht
  have HVL := Lib.hid hvl
  clear hvl
  generalize Sn.vlv ⟨kd, tx, n, p⟩ = V at *
  generalize Sn.vok ⟨kd, tx, n, p⟩ = O at *
  have facts : ∀ {w4 : World} {o : Obj}, Below (w.alloc o).heap.size (w.alloc o) w4 → ItB w4 g i ∧ Fg g w w4 := fun {w4 o} hb4 =>
    ⟨(hb4.block g (by simp; omega)).trans ((heap_alloc_old _ _ hgl).trans hI), (Fg.refl g w).up (upT (upA (up0 w) _) hb4)⟩
  go_enter Tryd.func43, Tryd.ntmps43
  go_wp2_with (go_at_call 61; refine (HVL.out _).mono ?_; rintro e w4 ⟨rfl, hb4⟩; obtain ⟨h4, f4⟩ := facts hb4; have z := fun k => frozen_of_row w4 g k _ _ h4; have c := fun k => cell_of_row w4 g k _ _ _ h4)
  go_ret
  exact ⟨rfl, cells_set (cells_set h4 9 _) 10 _, (f4.setCell h4 9 _).setCell (cells_set h4 9 _) 10 _⟩
end
section
open Go.RowKit
set_option maxRecDepth 100000 in
set_option maxHeartbeats 4000000 in
theorem take_N (w : World) (g : Nat) (i : Sy.It) (kd : Int) (tx : List Int) (n : Int) (p : Nat) (T : Sn.Tab w) (hI : ItB w g i) (ht : ∀ y ∈ tx, 0 ≤ y ∧ y < 256) :
    Calls Tryd.prog 43 #[.pointer (some ⟨g, 0, none⟩), .int .i32 78, TV ⟨kd, tx, n, p⟩] w (TakeP w g (Sn.take i 78 ⟨kd, tx, n, p⟩)) := by
  have hA : Sn.take i 78 ⟨kd, tx, n, p⟩ = ({ i with n := n }, decide (kd = 2)) := rfl
  rw [hA]
  clear hA
  have hgl := (Array.getElem?_eq_some_iff.1 hI).1
  have hI1 : ∀ o, ItB (w.alloc o) g i := fun o => (heap_alloc_old _ _ hgl).trans hI
  have HI := Lib.hid hI1; have HI0 := Lib.hid hI
  have z := fun o k => frozen_of_row (w.alloc o) g k _ _ (hI1 o)
  have c := fun o k => cell_of_row (w.alloc o) g k _ _ _ (hI1 o)
  clear hI1 hI
  have hne : g ≠ w.heap.size := by omega
  have hne2 : w.heap.size ≠ g := by omega
  have hbox2 : ∀ v, ((w.setCell ⟨g, 1, none⟩ v).alloc (.cells #[.int .i64 kd, .string (strOfNums tx), .int .i64 n, .int .i64 (p : Int)] 73)).heap[w.heap.size]? = some (.cells #[.int .i64 kd, .string (strOfNums tx), .int .i64 n, .int .i64 (p : Int)] 73 (0, 0)) := fun v => by
    have := heap_alloc_new (w.setCell ⟨g, 1, none⟩ v) (.cells #[.int .i64 kd, .string (strOfNums tx), .int .i64 n, .int .i64 (p : Int)] 73)
    simpa using this
  go_enter Tryd.func43, Tryd.ntmps43
  go_wp2_with fail
  refine wp_region_noPanic ?_
  refine wp_region_held_drew (S := fun w' => w'.cell? ⟨w.heap.size, 0, none⟩ = some (.int .i64 kd) ∧ w'.cell? ⟨w.heap.size, 2, none⟩ = some (.int .i64 n)) (by kernel_rfl) ?_ (fun hHeld => ?_)
  · exact ⟨cell_of_row _ _ _ _ _ _ (heap_alloc_new w _), cell_of_row _ _ _ _ _ _ (heap_alloc_new w _)⟩
  refine wpAnyH_take (i := 0) (oi := _) (v := ?_) rfl (by kernel_rfl) (by kernel_rfl) (by kernel_rfl) (fun _ _ _ h => h) (Or.inl ⟨by kernel_rfl, ?_⟩) (by assumption) ?_
  rotate_left
  · (intro w hSw; (try dsimp only at hSw); go_simp; try (with_reducible rfl))
  (try simp only [List.getElem_toArray, List.getElem_cons_succ, List.getElem_cons_zero, Act.put, List.setIfInBounds_toArray, List.set_cons_zero, List.set_cons_succ])
  refine wpAnyH_take (i := 1) (oi := _) (v := ?_) rfl (by kernel_rfl) (by kernel_rfl) (by kernel_rfl) (fun _ _ _ h => h) (Or.inl ⟨by kernel_rfl, ?_⟩) (by assumption) ?_
  rotate_left
  · (intro w hSw; (try dsimp only at hSw); go_simp; try (with_reducible rfl))
  (try simp only [List.getElem_toArray, List.getElem_cons_succ, List.getElem_cons_zero, Act.put, List.setIfInBounds_toArray, List.set_cons_zero, List.set_cons_succ])
  refine wpAnyH_take (i := 2) (oi := _) (v := ?_) rfl (by kernel_rfl) (by kernel_rfl) (by kernel_rfl) (fun _ _ _ h => h) (Or.inl ⟨by kernel_rfl, ?_⟩) (by assumption) ?_
  rotate_left
  · (intro w hSw; (try dsimp only at hSw); go_simp; try (with_reducible rfl))
  (try simp only [List.getElem_toArray, List.getElem_cons_succ, List.getElem_cons_zero, Act.put, List.setIfInBounds_toArray, List.set_cons_zero, List.set_cons_succ])
  refine wpAnyH_take (i := 3) (oi := _) (v := ?_) rfl (by kernel_rfl) (by kernel_rfl) (by kernel_rfl) (fun _ _ _ h => h) (Or.inl ⟨by kernel_rfl, ?_⟩) (by assumption) ?_
  rotate_left
  · (intro w hSw; (try dsimp only at hSw); go_simp; try (with_reducible rfl))
  (try simp only [List.getElem_toArray, List.getElem_cons_succ, List.getElem_cons_zero, Act.put, List.setIfInBounds_toArray, List.set_cons_zero, List.set_cons_succ])
  refine wpAnyH_take (i := 4) (oi := _) (v := ?_) rfl (by kernel_rfl) (by kernel_rfl) (by kernel_rfl) (fun _ _ _ h => h) (Or.inl ⟨by kernel_rfl, ?_⟩) (by assumption) ?_
  rotate_left
  · (intro w hSw; (try dsimp only at hSw); go_simp; try (with_reducible rfl))
  (try simp only [List.getElem_toArray, List.getElem_cons_succ, List.getElem_cons_zero, Act.put, List.setIfInBounds_toArray, List.set_cons_zero, List.set_cons_succ])
  refine wpAnyH_take (i := 5) (oi := _) (v := ?_) rfl (by kernel_rfl) (by kernel_rfl) (by kernel_rfl) (fun _ _ _ h => h) (Or.inl ⟨by kernel_rfl, ?_⟩) (by assumption) ?_
  rotate_left
  · (intro w hSw; (try dsimp only at hSw); go_simp; try (with_reducible rfl))
  (try simp only [List.getElem_toArray, List.getElem_cons_succ, List.getElem_cons_zero, Act.put, List.setIfInBounds_toArray, List.set_cons_zero, List.set_cons_succ])
  refine wpAnyH_take (i := 6) (oi := _) (v := ?_) rfl (by kernel_rfl) (by kernel_rfl) (by kernel_rfl) (fun _ _ _ h => h) (Or.inl ⟨by kernel_rfl, ?_⟩) (by assumption) ?_
  rotate_left
  · (intro w hSw; (try dsimp only at hSw); go_simp; try (with_reducible rfl))
  (try simp only [List.getElem_toArray, List.getElem_cons_succ, List.getElem_cons_zero, Act.put, List.setIfInBounds_toArray, List.set_cons_zero, List.set_cons_succ])
  refine wpAnyH_take (i := 7) (oi := _) (v := ?_) rfl (by kernel_rfl) (by kernel_rfl) (by kernel_rfl) (fun _ _ _ h => h) (Or.inl ⟨by kernel_rfl, ?_⟩) (by assumption) ?_
  rotate_left
  · (intro w hSw; (try dsimp only at hSw); go_simp; try (with_reducible rfl))
  (try simp only [List.getElem_toArray, List.getElem_cons_succ, List.getElem_cons_zero, Act.put, List.setIfInBounds_toArray, List.set_cons_zero, List.set_cons_succ])
  refine wpAnyH_ready (rs := [8]) (by kernel_rfl) (by simp) ?_
  refine AllReadyH.cons (o := _) rfl (fun K hK => ?_) AllReadyH.nil
  go_simp
  first | refine hK.out _ _ ?_ (fun hHeld => ?_) | (go_wp2_with fail; refine hK.out _ _ ?_ (fun hHeld => ?_))
  · exact ⟨cell_of_row _ _ 0 _ _ _ (hbox2 _), cell_of_row _ _ 2 _ _ _ (hbox2 _)⟩
  clear hK K
  (try simp only [List.getElem_toArray, List.getElem_cons_succ, List.getElem_cons_zero, Act.put, List.setIfInBounds_toArray, List.set_cons_zero, List.set_cons_succ])
  refine wpAnyH_take (i := 9) (oi := _) (v := ?_) rfl (by kernel_rfl) (by kernel_rfl) (by kernel_rfl) (fun _ _ _ h => h) (Or.inl ⟨by kernel_rfl, ?_⟩) (by assumption) ?_
  rotate_left
  · (intro w hSw; (try dsimp only at hSw); go_simp; try (with_reducible rfl))
  (try simp only [List.getElem_toArray, List.getElem_cons_succ, List.getElem_cons_zero, Act.put, List.setIfInBounds_toArray, List.set_cons_zero, List.set_cons_succ])
  refine wpAnyH_done (by kernel_rfl) ?_ _
  refine NoPanic.normal ?_
  (try go_simp)
  go_wp2_with fail
  go_ret
  exact ⟨rfl, it_setA HI0.out 1 _ _, (it_fgA HI0.out 1 _ _).drew⟩
set_option maxRecDepth 100000 in
set_option maxHeartbeats 4000000 in
theorem take_M (w : World) (g : Nat) (i : Sy.It) (kd : Int) (tx : List Int) (n : Int) (p : Nat) (T : Sn.Tab w) (hI : ItB w g i) (ht : ∀ y ∈ tx, 0 ≤ y ∧ y < 256) :
    Calls Tryd.prog 43 #[.pointer (some ⟨g, 0, none⟩), .int .i32 77, TV ⟨kd, tx, n, p⟩] w (TakeP w g (Sn.take i 77 ⟨kd, tx, n, p⟩)) := by
  have hA : Sn.take i 77 ⟨kd, tx, n, p⟩ = ({ i with name := tx }, Sn.isNm ⟨kd, tx, n, p⟩) := rfl
  rw [hA]
  clear hA
  have hgl := (Array.getElem?_eq_some_iff.1 hI).1
  have hnm := fun W TT => isName_any kd tx n p W TT ht
  have HNM := Lib.hid hnm
  clear hnm
  generalize Sn.isNm ⟨kd, tx, n, p⟩ = O at *
  have facts : ∀ {w4 : World} {o : Obj}, Below (w.alloc o).heap.size (w.alloc o) w4 → ItB w4 g i ∧ Fg g w w4 := fun {w4 o} hb4 =>
    ⟨(hb4.block g (by simp; omega)).trans ((heap_alloc_old _ _ hgl).trans hI), (Fg.refl g w).up (upT (upA (up0 w) _) hb4)⟩
  have hne : g ≠ w.heap.size := by omega
  have hne2 : w.heap.size ≠ g := by omega
  go_enter Tryd.func43, Tryd.ntmps43
  go_wp2_with fail
  have hbox := heap_alloc_new w (.cells #[.int .i64 kd, .string (strOfNums tx), .int .i64 n, .int .i64 (p : Int)] 73)
  have k0 := cell_of_row _ _ 0 _ _ _ hbox; have k1 := cell_of_row _ _ 1 _ _ _ hbox; have k2 := cell_of_row _ _ 2 _ _ _ hbox; have k3 := cell_of_row _ _ 3 _ _ _ hbox
  refine wp_region_noPanic ?_
  refine wp_region_held_drew (S := fun w' => w'.cell? ⟨w.heap.size, 0, none⟩ = some (.int .i64 kd) ∧ w'.cell? ⟨w.heap.size, 1, none⟩ = some (.string (strOfNums tx)) ∧ w'.cell? ⟨w.heap.size, 2, none⟩ = some (.int .i64 n) ∧ w'.cell? ⟨w.heap.size, 3, none⟩ = some (.int .i64 (p : Int))) (by kernel_rfl) ?_ (fun hHeld => ?_)
  · exact ⟨k0, k1, k2, k3⟩
  refine wpAnyH_take (i := 0) (oi := _) (v := ?_) rfl (by kernel_rfl) (by kernel_rfl) (by kernel_rfl) (fun _ _ _ h => h) (Or.inl ⟨by kernel_rfl, ?_⟩) (by assumption) ?_
  rotate_left
  · (intro w hSw; (try dsimp only at hSw); go_simp; try (with_reducible rfl))
  (try simp only [List.getElem_toArray, List.getElem_cons_succ, List.getElem_cons_zero, Act.put, List.setIfInBounds_toArray, List.set_cons_zero, List.set_cons_succ])
  refine wpAnyH_take (i := 1) (oi := _) (v := ?_) rfl (by kernel_rfl) (by kernel_rfl) (by kernel_rfl) (fun _ _ _ h => h) (Or.inl ⟨by kernel_rfl, ?_⟩) (by assumption) ?_
  rotate_left
  · (intro w hSw; (try dsimp only at hSw); go_simp; try (with_reducible rfl))
  (try simp only [List.getElem_toArray, List.getElem_cons_succ, List.getElem_cons_zero, Act.put, List.setIfInBounds_toArray, List.set_cons_zero, List.set_cons_succ])
  refine wpAnyH_take (i := 2) (oi := _) (v := ?_) rfl (by kernel_rfl) (by kernel_rfl) (by kernel_rfl) (fun _ _ _ h => h) (Or.inl ⟨by kernel_rfl, ?_⟩) (by assumption) ?_
  rotate_left
  · (intro w hSw; (try dsimp only at hSw); go_simp; try (with_reducible rfl))
  (try simp only [List.getElem_toArray, List.getElem_cons_succ, List.getElem_cons_zero, Act.put, List.setIfInBounds_toArray, List.set_cons_zero, List.set_cons_succ])
  refine wpAnyH_take (i := 3) (oi := _) (v := ?_) rfl (by kernel_rfl) (by kernel_rfl) (by kernel_rfl) (fun _ _ _ h => h) (Or.inl ⟨by kernel_rfl, ?_⟩) (by assumption) ?_
  rotate_left
  · (intro w hSw; (try dsimp only at hSw); go_simp; try (with_reducible rfl))
  (try simp only [List.getElem_toArray, List.getElem_cons_succ, List.getElem_cons_zero, Act.put, List.setIfInBounds_toArray, List.set_cons_zero, List.set_cons_succ])
  refine wpAnyH_ready (rs := [4]) (by kernel_rfl) (by simp) ?_
  refine AllReadyH.cons (o := _) rfl (fun K hK => ?_) AllReadyH.nil
  go_simp
  go_at_call 58
  refine (HNM.out _ (T.below (show Below w.heap.size w (w.alloc _).drew from upD (upA (up0 w) _) 1))).mono ?_
  rintro e w4 ⟨rfl, hb4⟩
  obtain ⟨h4, f4⟩ := facts (show Below _ (w.alloc _) w4 from ⟨hb4.os, hb4.tape, hb4.output, hb4.size, hb4.block⟩)
  have z := fun k => frozen_of_row w4 g k _ _ h4
  have c := fun k => cell_of_row w4 g k _ _ _ h4
  have hbox4 := (hb4.block w.heap.size (by simp)).trans hbox
  first | refine hK.out _ _ ?_ (fun hHeld => ?_) | (go_wp2_with fail; refine hK.out _ _ ?_ (fun hHeld => ?_))
  · exact ⟨cell_of_row _ _ 0 _ _ _ hbox4, cell_of_row _ _ 1 _ _ _ hbox4, cell_of_row _ _ 2 _ _ _ hbox4, cell_of_row _ _ 3 _ _ _ hbox4⟩
  clear hK K
  (try simp only [List.getElem_toArray, List.getElem_cons_succ, List.getElem_cons_zero, Act.put, List.setIfInBounds_toArray, List.set_cons_zero, List.set_cons_succ])
  refine wpAnyH_take (i := 5) (oi := _) (v := ?_) rfl (by kernel_rfl) (by kernel_rfl) (by kernel_rfl) (fun _ _ _ h => h) (Or.inl ⟨by kernel_rfl, ?_⟩) (by assumption) ?_
  rotate_left
  · (intro w hSw; (try dsimp only at hSw); go_simp; try (with_reducible rfl))
  (try simp only [List.getElem_toArray, List.getElem_cons_succ, List.getElem_cons_zero, Act.put, List.setIfInBounds_toArray, List.set_cons_zero, List.set_cons_succ])
  refine wpAnyH_take (i := 6) (oi := _) (v := ?_) rfl (by kernel_rfl) (by kernel_rfl) (by kernel_rfl) (fun _ _ _ h => h) (Or.inl ⟨by kernel_rfl, ?_⟩) (by assumption) ?_
  rotate_left
  · (intro w hSw; (try dsimp only at hSw); go_simp; try (with_reducible rfl))
  (try simp only [List.getElem_toArray, List.getElem_cons_succ, List.getElem_cons_zero, Act.put, List.setIfInBounds_toArray, List.set_cons_zero, List.set_cons_succ])
  refine wpAnyH_ready (rs := [7]) (by kernel_rfl) (by simp) ?_
  refine AllReadyH.cons (o := _) rfl (fun K hK => ?_) AllReadyH.nil
  go_simp
  first | refine hK.out _ _ ?_ (fun hHeld => ?_) | (go_wp2_with fail; refine hK.out _ _ ?_ (fun hHeld => ?_))
  · exact ⟨(World.cell?_setCell_other _ _ _ _ (by simp [hne, hne2])).trans (cell_of_row _ _ 0 _ _ _ hbox4), (World.cell?_setCell_other _ _ _ _ (by simp [hne, hne2])).trans (cell_of_row _ _ 1 _ _ _ hbox4), (World.cell?_setCell_other _ _ _ _ (by simp [hne, hne2])).trans (cell_of_row _ _ 2 _ _ _ hbox4), (World.cell?_setCell_other _ _ _ _ (by simp [hne, hne2])).trans (cell_of_row _ _ 3 _ _ _ hbox4)⟩
  clear hK K
  (try simp only [List.getElem_toArray, List.getElem_cons_succ, List.getElem_cons_zero, Act.put, List.setIfInBounds_toArray, List.set_cons_zero, List.set_cons_succ])
  refine wpAnyH_take (i := 8) (oi := _) (v := ?_) rfl (by kernel_rfl) (by kernel_rfl) (by kernel_rfl) (fun _ _ _ h => h) (Or.inl ⟨by kernel_rfl, ?_⟩) (by assumption) ?_
  rotate_left
  · (intro w hSw; (try dsimp only at hSw); go_simp; try (with_reducible rfl))
  (try simp only [List.getElem_toArray, List.getElem_cons_succ, List.getElem_cons_zero, Act.put, List.setIfInBounds_toArray, List.set_cons_zero, List.set_cons_succ])
  refine wpAnyH_done (by kernel_rfl) ?_ _
  refine NoPanic.normal ?_
  (try go_simp)
  go_wp2_with fail
  go_ret
  exact ⟨rfl, it_set h4 3 _, f4.setCell h4 3 _⟩
set_option maxRecDepth 100000 in
set_option maxHeartbeats 4000000 in
theorem take_L (w : World) (g : Nat) (i : Sy.It) (kd : Int) (tx : List Int) (n : Int) (p : Nat) (T : Sn.Tab w) (hI : ItB w g i) (ht : ∀ y ∈ tx, 0 ≤ y ∧ y < 256) :
    Calls Tryd.prog 43 #[.pointer (some ⟨g, 0, none⟩), .int .i32 76, TV ⟨kd, tx, n, p⟩] w (TakeP w g (Sn.take i 76 ⟨kd, tx, n, p⟩)) := by
  have hA : Sn.take i 76 ⟨kd, tx, n, p⟩ = ({ i with ins := { i.ins with name := tx } }, Sn.isNm ⟨kd, tx, n, p⟩) := rfl
  rw [hA]
  clear hA
  have hgl := (Array.getElem?_eq_some_iff.1 hI).1
  have hnm := fun W TT => isName_any kd tx n p W TT ht
  have HNM := Lib.hid hnm
  clear hnm
  generalize Sn.isNm ⟨kd, tx, n, p⟩ = O at *
  have facts : ∀ {w4 : World} {o : Obj}, Below (w.alloc o).heap.size (w.alloc o) w4 → ItB w4 g i ∧ Fg g w w4 := fun {w4 o} hb4 =>
    ⟨(hb4.block g (by simp; omega)).trans ((heap_alloc_old _ _ hgl).trans hI), (Fg.refl g w).up (upT (upA (up0 w) _) hb4)⟩
  have hne : g ≠ w.heap.size := by omega
  have hne2 : w.heap.size ≠ g := by omega
  go_enter Tryd.func43, Tryd.ntmps43
  go_wp2_with fail
  have hbox := heap_alloc_new w (.cells #[.int .i64 kd, .string (strOfNums tx), .int .i64 n, .int .i64 (p : Int)] 73)
  have k0 := cell_of_row _ _ 0 _ _ _ hbox; have k1 := cell_of_row _ _ 1 _ _ _ hbox; have k2 := cell_of_row _ _ 2 _ _ _ hbox; have k3 := cell_of_row _ _ 3 _ _ _ hbox
  refine wp_region_noPanic ?_
  refine wp_region_held_drew (S := fun w' => w'.cell? ⟨w.heap.size, 0, none⟩ = some (.int .i64 kd) ∧ w'.cell? ⟨w.heap.size, 1, none⟩ = some (.string (strOfNums tx)) ∧ w'.cell? ⟨w.heap.size, 2, none⟩ = some (.int .i64 n) ∧ w'.cell? ⟨w.heap.size, 3, none⟩ = some (.int .i64 (p : Int))) (by kernel_rfl) ?_ (fun hHeld => ?_)
  · exact ⟨k0, k1, k2, k3⟩
  refine wpAnyH_take (i := 0) (oi := _) (v := ?_) rfl (by kernel_rfl) (by kernel_rfl) (by kernel_rfl) (fun _ _ _ h => h) (Or.inl ⟨by kernel_rfl, ?_⟩) (by assumption) ?_
  rotate_left
  · (intro w hSw; (try dsimp only at hSw); go_simp; try (with_reducible rfl))
  (try simp only [List.getElem_toArray, List.getElem_cons_succ, List.getElem_cons_zero, Act.put, List.setIfInBounds_toArray, List.set_cons_zero, List.set_cons_succ])
  refine wpAnyH_take (i := 1) (oi := _) (v := ?_) rfl (by kernel_rfl) (by kernel_rfl) (by kernel_rfl) (fun _ _ _ h => h) (Or.inl ⟨by kernel_rfl, ?_⟩) (by assumption) ?_
  rotate_left
  · (intro w hSw; (try dsimp only at hSw); go_simp; try (with_reducible rfl))
  (try simp only [List.getElem_toArray, List.getElem_cons_succ, List.getElem_cons_zero, Act.put, List.setIfInBounds_toArray, List.set_cons_zero, List.set_cons_succ])
  refine wpAnyH_take (i := 2) (oi := _) (v := ?_) rfl (by kernel_rfl) (by kernel_rfl) (by kernel_rfl) (fun _ _ _ h => h) (Or.inl ⟨by kernel_rfl, ?_⟩) (by assumption) ?_
  rotate_left
  · (intro w hSw; (try dsimp only at hSw); go_simp; try (with_reducible rfl))
  (try simp only [List.getElem_toArray, List.getElem_cons_succ, List.getElem_cons_zero, Act.put, List.setIfInBounds_toArray, List.set_cons_zero, List.set_cons_succ])
  refine wpAnyH_take (i := 3) (oi := _) (v := ?_) rfl (by kernel_rfl) (by kernel_rfl) (by kernel_rfl) (fun _ _ _ h => h) (Or.inl ⟨by kernel_rfl, ?_⟩) (by assumption) ?_
  rotate_left
  · (intro w hSw; (try dsimp only at hSw); go_simp; try (with_reducible rfl))
  (try simp only [List.getElem_toArray, List.getElem_cons_succ, List.getElem_cons_zero, Act.put, List.setIfInBounds_toArray, List.set_cons_zero, List.set_cons_succ])
  refine wpAnyH_ready (rs := [4]) (by kernel_rfl) (by simp) ?_
  refine AllReadyH.cons (o := _) rfl (fun K hK => ?_) AllReadyH.nil
  go_simp
  go_at_call 58
  refine (HNM.out _ (T.below (show Below w.heap.size w (w.alloc _).drew from upD (upA (up0 w) _) 1))).mono ?_
  rintro e w4 ⟨rfl, hb4⟩
  obtain ⟨h4, f4⟩ := facts (show Below _ (w.alloc _) w4 from ⟨hb4.os, hb4.tape, hb4.output, hb4.size, hb4.block⟩)
  have z := fun k => frozen_of_row w4 g k _ _ h4
  have c := fun k => cell_of_row w4 g k _ _ _ h4
  have hbox4 := (hb4.block w.heap.size (by simp)).trans hbox
  first | refine hK.out _ _ ?_ (fun hHeld => ?_) | (go_wp2_with fail; refine hK.out _ _ ?_ (fun hHeld => ?_))
  · exact ⟨cell_of_row _ _ 0 _ _ _ hbox4, cell_of_row _ _ 1 _ _ _ hbox4, cell_of_row _ _ 2 _ _ _ hbox4, cell_of_row _ _ 3 _ _ _ hbox4⟩
  clear hK K
  (try simp only [List.getElem_toArray, List.getElem_cons_succ, List.getElem_cons_zero, Act.put, List.setIfInBounds_toArray, List.set_cons_zero, List.set_cons_succ])
  refine wpAnyH_take (i := 5) (oi := _) (v := ?_) rfl (by kernel_rfl) (by kernel_rfl) (by kernel_rfl) (fun _ _ _ h => h) (Or.inl ⟨by kernel_rfl, ?_⟩) (by assumption) ?_
  rotate_left
  · (intro w hSw; (try dsimp only at hSw); go_simp; try (with_reducible rfl))
  (try simp only [List.getElem_toArray, List.getElem_cons_succ, List.getElem_cons_zero, Act.put, List.setIfInBounds_toArray, List.set_cons_zero, List.set_cons_succ])
  refine wpAnyH_take (i := 6) (oi := _) (v := ?_) rfl (by kernel_rfl) (by kernel_rfl) (by kernel_rfl) (fun _ _ _ h => h) (Or.inl ⟨by kernel_rfl, ?_⟩) (by assumption) ?_
  rotate_left
  · (intro w hSw; (try dsimp only at hSw); go_simp; try (with_reducible rfl))
  (try simp only [List.getElem_toArray, List.getElem_cons_succ, List.getElem_cons_zero, Act.put, List.setIfInBounds_toArray, List.set_cons_zero, List.set_cons_succ])
  refine wpAnyH_take (i := 7) (oi := _) (v := ?_) rfl (by kernel_rfl) (by kernel_rfl) (by kernel_rfl) (fun _ _ _ h => h) (Or.inl ⟨by kernel_rfl, ?_⟩) (by assumption) ?_
  rotate_left
  · (intro w hSw; (try dsimp only at hSw); go_simp; try (with_reducible rfl))
  (try simp only [List.getElem_toArray, List.getElem_cons_succ, List.getElem_cons_zero, Act.put, List.setIfInBounds_toArray, List.set_cons_zero, List.set_cons_succ])
  refine wpAnyH_ready (rs := [8]) (by kernel_rfl) (by simp) ?_
  refine AllReadyH.cons (o := _) rfl (fun K hK => ?_) AllReadyH.nil
  go_simp
  first | refine hK.out _ _ ?_ (fun hHeld => ?_) | (go_wp2_with fail; refine hK.out _ _ ?_ (fun hHeld => ?_))
  · exact ⟨(World.cell?_setCell_other _ _ _ _ (by simp [hne, hne2])).trans (cell_of_row _ _ 0 _ _ _ hbox4), (World.cell?_setCell_other _ _ _ _ (by simp [hne, hne2])).trans (cell_of_row _ _ 1 _ _ _ hbox4), (World.cell?_setCell_other _ _ _ _ (by simp [hne, hne2])).trans (cell_of_row _ _ 2 _ _ _ hbox4), (World.cell?_setCell_other _ _ _ _ (by simp [hne, hne2])).trans (cell_of_row _ _ 3 _ _ _ hbox4)⟩
  clear hK K
  (try simp only [List.getElem_toArray, List.getElem_cons_succ, List.getElem_cons_zero, Act.put, List.setIfInBounds_toArray, List.set_cons_zero, List.set_cons_succ])
  refine wpAnyH_take (i := 9) (oi := _) (v := ?_) rfl (by kernel_rfl) (by kernel_rfl) (by kernel_rfl) (fun _ _ _ h => h) (Or.inl ⟨by kernel_rfl, ?_⟩) (by assumption) ?_
  rotate_left
  · (intro w hSw; (try dsimp only at hSw); go_simp; try (with_reducible rfl))
  (try simp only [List.getElem_toArray, List.getElem_cons_succ, List.getElem_cons_zero, Act.put, List.setIfInBounds_toArray, List.set_cons_zero, List.set_cons_succ])
  refine wpAnyH_done (by kernel_rfl) ?_ _
  refine NoPanic.normal ?_
  (try go_simp)
  go_wp2_with fail
  go_ret
  exact ⟨rfl, it_set h4 11 _, f4.setCell h4 11 _⟩
set_option maxRecDepth 100000 in
set_option maxHeartbeats 4000000 in
theorem take_S1 (w : World) (g : Nat) (i : Sy.It) (kd : Int) (tx : List Int) (n : Int) (p : Nat) (T : Sn.Tab w) (hI : ItB w g i) (ht : ∀ y ∈ tx, 0 ≤ y ∧ y < 256) :
    Calls Tryd.prog 43 #[.pointer (some ⟨g, 0, none⟩), .int .i32 44, TV ⟨kd, tx, n, p⟩] w (TakeP w g (Sn.take i 44 ⟨kd, tx, n, p⟩)) := by
  have hA : Sn.take i 44 ⟨kd, tx, n, p⟩ = (i, decide (tx = [44])) := rfl
  rw [hA]
  clear hA
  have hgl := (Array.getElem?_eq_some_iff.1 hI).1
  have hI1 : ∀ o, ItB (w.alloc o) g i := fun o => (heap_alloc_old _ _ hgl).trans hI
  have HI := Lib.hid hI1; have HI0 := Lib.hid hI
  have z := fun o k => frozen_of_row (w.alloc o) g k _ _ (hI1 o)
  have c := fun o k => cell_of_row (w.alloc o) g k _ _ _ (hI1 o)
  clear hI1 hI
  have hq := str_beq2 ht (show ∀ y ∈ [(44 : Int)], 0 ≤ y ∧ y < 256 by decide)
  have hq2 : (strOfNums [(44 : Int)]).toList = [44] := by rw [Lib.strOfNums_toList]; rfl
  rw [hq2] at hq
  have he : Utf8.encode 44 = ⟨#[44]⟩ := rfl
  have HQ := Lib.hid hq
  clear hq hq2
  go_enter Tryd.func43, Tryd.ntmps43
  go_wp2_with fail
  go_ret
  refine ⟨?_, HI.out _, (Fg.refl g w).up (upA (up0 w) _)⟩
  rw [← HQ.out]
  rfl
set_option maxRecDepth 100000 in
set_option maxHeartbeats 4000000 in
theorem take_S2 (w : World) (g : Nat) (i : Sy.It) (kd : Int) (tx : List Int) (n : Int) (p : Nat) (T : Sn.Tab w) (hI : ItB w g i) (ht : ∀ y ∈ tx, 0 ≤ y ∧ y < 256) :
    Calls Tryd.prog 43 #[.pointer (some ⟨g, 0, none⟩), .int .i32 58, TV ⟨kd, tx, n, p⟩] w (TakeP w g (Sn.take i 58 ⟨kd, tx, n, p⟩)) := by
  have hA : Sn.take i 58 ⟨kd, tx, n, p⟩ = (i, decide (tx = [58])) := rfl
  rw [hA]
  clear hA
  have hgl := (Array.getElem?_eq_some_iff.1 hI).1
  have hI1 : ∀ o, ItB (w.alloc o) g i := fun o => (heap_alloc_old _ _ hgl).trans hI
  have HI := Lib.hid hI1; have HI0 := Lib.hid hI
  have z := fun o k => frozen_of_row (w.alloc o) g k _ _ (hI1 o)
  have c := fun o k => cell_of_row (w.alloc o) g k _ _ _ (hI1 o)
  clear hI1 hI
  have hq := str_beq2 ht (show ∀ y ∈ [(58 : Int)], 0 ≤ y ∧ y < 256 by decide)
  have hq2 : (strOfNums [(58 : Int)]).toList = [58] := by rw [Lib.strOfNums_toList]; rfl
  rw [hq2] at hq
  have he : Utf8.encode 58 = ⟨#[58]⟩ := rfl
  have HQ := Lib.hid hq
  clear hq hq2
  go_enter Tryd.func43, Tryd.ntmps43
  go_wp2_with fail
  go_ret
  refine ⟨?_, HI.out _, (Fg.refl g w).up (upA (up0 w) _)⟩
  rw [← HQ.out]
  rfl
set_option maxRecDepth 100000 in
set_option maxHeartbeats 4000000 in
theorem take_S3 (w : World) (g : Nat) (i : Sy.It) (kd : Int) (tx : List Int) (n : Int) (p : Nat) (T : Sn.Tab w) (hI : ItB w g i) (ht : ∀ y ∈ tx, 0 ≤ y ∧ y < 256) :
    Calls Tryd.prog 43 #[.pointer (some ⟨g, 0, none⟩), .int .i32 91, TV ⟨kd, tx, n, p⟩] w (TakeP w g (Sn.take i 91 ⟨kd, tx, n, p⟩)) := by
  have hA : Sn.take i 91 ⟨kd, tx, n, p⟩ = (i, decide (tx = [91])) := rfl
  rw [hA]
  clear hA
  have hgl := (Array.getElem?_eq_some_iff.1 hI).1
  have hI1 : ∀ o, ItB (w.alloc o) g i := fun o => (heap_alloc_old _ _ hgl).trans hI
  have HI := Lib.hid hI1; have HI0 := Lib.hid hI
  have z := fun o k => frozen_of_row (w.alloc o) g k _ _ (hI1 o)
  have c := fun o k => cell_of_row (w.alloc o) g k _ _ _ (hI1 o)
  clear hI1 hI
  have hq := str_beq2 ht (show ∀ y ∈ [(91 : Int)], 0 ≤ y ∧ y < 256 by decide)
  have hq2 : (strOfNums [(91 : Int)]).toList = [91] := by rw [Lib.strOfNums_toList]; rfl
  rw [hq2] at hq
  have he : Utf8.encode 91 = ⟨#[91]⟩ := rfl
  have HQ := Lib.hid hq
  clear hq hq2
  go_enter Tryd.func43, Tryd.ntmps43
  go_wp2_with fail
  go_ret
  refine ⟨?_, HI.out _, (Fg.refl g w).up (upA (up0 w) _)⟩
  rw [← HQ.out]
  rfl
set_option maxRecDepth 100000 in
set_option maxHeartbeats 4000000 in
theorem take_S4 (w : World) (g : Nat) (i : Sy.It) (kd : Int) (tx : List Int) (n : Int) (p : Nat) (T : Sn.Tab w) (hI : ItB w g i) (ht : ∀ y ∈ tx, 0 ≤ y ∧ y < 256) :
    Calls Tryd.prog 43 #[.pointer (some ⟨g, 0, none⟩), .int .i32 93, TV ⟨kd, tx, n, p⟩] w (TakeP w g (Sn.take i 93 ⟨kd, tx, n, p⟩)) := by
  have hA : Sn.take i 93 ⟨kd, tx, n, p⟩ = (i, decide (tx = [93])) := rfl
  rw [hA]
  clear hA
  have hgl := (Array.getElem?_eq_some_iff.1 hI).1
  have hI1 : ∀ o, ItB (w.alloc o) g i := fun o => (heap_alloc_old _ _ hgl).trans hI
  have HI := Lib.hid hI1; have HI0 := Lib.hid hI
  have z := fun o k => frozen_of_row (w.alloc o) g k _ _ (hI1 o)
  have c := fun o k => cell_of_row (w.alloc o) g k _ _ _ (hI1 o)
  clear hI1 hI
  have hq := str_beq2 ht (show ∀ y ∈ [(93 : Int)], 0 ≤ y ∧ y < 256 by decide)
  have hq2 : (strOfNums [(93 : Int)]).toList = [93] := by rw [Lib.strOfNums_toList]; rfl
  rw [hq2] at hq
  have he : Utf8.encode 93 = ⟨#[93]⟩ := rfl
  have HQ := Lib.hid hq
  clear hq hq2
  go_enter Tryd.func43, Tryd.ntmps43
  go_wp2_with fail
  go_ret
  refine ⟨?_, HI.out _, (Fg.refl g w).up (upA (up0 w) _)⟩
  rw [← HQ.out]
  rfl
set_option maxRecDepth 100000 in
set_option maxHeartbeats 4000000 in
theorem take_S5 (w : World) (g : Nat) (i : Sy.It) (kd : Int) (tx : List Int) (n : Int) (p : Nat) (T : Sn.Tab w) (hI : ItB w g i) (ht : ∀ y ∈ tx, 0 ≤ y ∧ y < 256) :
    Calls Tryd.prog 43 #[.pointer (some ⟨g, 0, none⟩), .int .i32 43, TV ⟨kd, tx, n, p⟩] w (TakeP w g (Sn.take i 43 ⟨kd, tx, n, p⟩)) := by
  have hA : Sn.take i 43 ⟨kd, tx, n, p⟩ = (i, decide (tx = [43])) := rfl
  rw [hA]
  clear hA
  have hgl := (Array.getElem?_eq_some_iff.1 hI).1
  have hI1 : ∀ o, ItB (w.alloc o) g i := fun o => (heap_alloc_old _ _ hgl).trans hI
  have HI := Lib.hid hI1; have HI0 := Lib.hid hI
  have z := fun o k => frozen_of_row (w.alloc o) g k _ _ (hI1 o)
  have c := fun o k => cell_of_row (w.alloc o) g k _ _ _ (hI1 o)
  clear hI1 hI
  have hq := str_beq2 ht (show ∀ y ∈ [(43 : Int)], 0 ≤ y ∧ y < 256 by decide)
  have hq2 : (strOfNums [(43 : Int)]).toList = [43] := by rw [Lib.strOfNums_toList]; rfl
  rw [hq2] at hq
  have he : Utf8.encode 43 = ⟨#[43]⟩ := rfl
  have HQ := Lib.hid hq
  clear hq hq2
  go_enter Tryd.func43, Tryd.ntmps43
  go_wp2_with fail
  go_ret
  refine ⟨?_, HI.out _, (Fg.refl g w).up (upA (up0 w) _)⟩
  rw [← HQ.out]
  rfl
end
section
open Go.RowKit
theorem infoIt : (Tryd.prog.info? 55).map (·.size) = some 13 := by kernel_rfl
theorem oneI (k : IntKind) (n : Int) : (Value.int k n).oneCell' = true := rfl
theorem oneB (b : Bool) : (Value.bool b).oneCell' = true := rfl
theorem oneS (b : ByteArray) : (Value.string b).oneCell' = true := rfl
theorem wp_storeIt {w : World} {ops : Array Oper} {rest : List Oper} {o : Oper} {a : Act} {Q : Exit → Act → World → Prop} (hgd : o.guard = none) (x y : Operand) (ho : o.op = .store 55 x y)
    (g : Nat) (i : Sy.It) (hx : a.eval x = .pointer (some ⟨g, 0, none⟩)) (hy : a.eval y = ItV i) (t : TypeId) (os : Array Value) (hg : w.heap[g]? = some (.cells os t (0, 0))) (hs : os.size = 13)
    (h : wpList Tryd.prog ops Q rest (a.put o.dst undef) (w.setRow g (ItC i))) : wpList Tryd.prog ops Q (o :: rest) a w :=
  wpList_store_row hgd _ x y ho g _ hx hy t _ hg infoIt (by rw [hs]; rfl) (by simp [oneI, oneB, oneS]) h
theorem wp_loadIt {w : World} {ops : Array Oper} {rest : List Oper} {o : Oper} {a : Act} {Q : Exit → Act → World → Prop} (hgd : o.guard = none) (x : Operand) (ho : o.op = .load 55 x)
    (g : Nat) (hx : a.eval x = .pointer (some ⟨g, 0, none⟩)) (i : Sy.It) (t : TypeId) (fr : Nat × Nat) (hg : w.heap[g]? = some (.cells (ItC i) t fr))
    (h : wpList Tryd.prog ops Q rest (a.put o.dst (ItV i)) w) : wpList Tryd.prog ops Q (o :: rest) a w :=
  wpList_load_row hgd _ x ho g hx t _ fr _ hg Tryd.underlying55 rfl infoIt h
theorem resIt3 {fn : Func} {p u v : Tmp} (h : fn.results = #[.cell p 55, .tmp u, .tmp v]) (tmps : Array Value) (w : World) (g : Nat) (i : Sy.It) (t : TypeId) (fr : Nat × Nat)
    (hp : tmps.getD p undef = .pointer (some ⟨g, 0, none⟩)) (hg : w.heap[g]? = some (.cells (ItC i) t fr)) : (results fn tmps).run Tryd.prog w = .ok (.tuple #[ItV i, tmps.getD u undef, tmps.getD v undef]) w := by
  have hp' : tmps[p]?.getD undef = .pointer (some ⟨g, 0, none⟩) := by simpa using hp
  have hl := run_loadVar_row w g t 55 _ fr _ hg Tryd.underlying55 rfl infoIt
  simp [results, h, hp', asAddr, hl, Sem.run_bind, Result.andThen]
theorem take_any (w : World) (g : Nat) (i : Sy.It) (p : Int) (hp : p = 78 ∨ p = 77 ∨ p = 76 ∨ p = 79 ∨ p = 68 ∨ p = 65 ∨ p = 66 ∨ p = 44 ∨ p = 58 ∨ p = 91 ∨ p = 93 ∨ p = 43) (t : Lx.Tk) (T : Sn.Tab w) (hI : ItB w g i) (ht : ∀ y ∈ t.text, 0 ≤ y ∧ y < 256) :
    Calls Tryd.prog 43 #[.pointer (some ⟨g, 0, none⟩), .int .i32 p, TV t] w (TakeP w g (Sn.take i p t)) := by
  obtain ⟨kd, tx, n, a⟩ := t
  rcases hp with rfl | rfl | rfl | rfl | rfl | rfl | rfl | rfl | rfl | rfl | rfl | rfl
  · exact take_N w g i kd tx n a T hI ht
  · exact take_M w g i kd tx n a T hI ht
  · exact take_L w g i kd tx n a T hI ht
  · exact take_O w g i kd tx n a T hI ht
  · exact take_D w g i kd tx n a T hI ht
  · exact take_A w g i kd tx n a T hI ht
  · exact take_B w g i kd tx n a T hI ht
  · exact take_S1 w g i kd tx n a T hI ht
  · exact take_S2 w g i kd tx n a T hI ht
  · exact take_S3 w g i kd tx n a T hI ht
  · exact take_S4 w g i kd tx n a T hI ht
  · exact take_S5 w g i kd tx n a T hI ht
/-- what a form's pieces are -/
theorem piece_of {f : Sn.Fm} (hf : f ∈ Sn.forms) {j : Nat} (hj : j < f.rest.length) : f.rest.getD j 0 = 32 ∨ (f.rest.getD j 0 = 78 ∨ f.rest.getD j 0 = 77 ∨ f.rest.getD j 0 = 76 ∨ f.rest.getD j 0 = 79 ∨ f.rest.getD j 0 = 68 ∨ f.rest.getD j 0 = 65 ∨ f.rest.getD j 0 = 66 ∨ f.rest.getD j 0 = 44 ∨ f.rest.getD j 0 = 58 ∨ f.rest.getD j 0 = 91 ∨ f.rest.getD j 0 = 93 ∨ f.rest.getD j 0 = 43) := by
  have key : ∀ f ∈ Sn.forms, ∀ x ∈ f.rest, x = 32 ∨ (x = 78 ∨ x = 77 ∨ x = 76 ∨ x = 79 ∨ x = 68 ∨ x = 65 ∨ x = 66 ∨ x = 44 ∨ x = 58 ∨ x = 91 ∨ x = 93 ∨ x = 43) := by decide +kernel
  exact key f hf _ (by simp [List.getD, hj])
theorem drop_piece {l : List Int} {j : Nat} (hj : j < l.length) : l.drop j = l.getD j 0 :: l.drop (j + 1) := by
  rw [List.drop_eq_getElem_cons hj]
  simp [List.getD, hj]
/-- the next piece of a form, as Go reads it -/
theorem next_piece {P : Program} {f : Sn.Fm} (hf : f ∈ Sn.forms) {w : World} {k j : Nat} (hk : w.heap[k]? = some (.stringIter (strOfNums f.rest) j)) (hj : j < f.rest.length) (ty : TypeId) :
    (Instr.next (.pointer (some ⟨k, 0, none⟩)) true ty).run P w = .ok (.tuple #[.bool true, .int .i64 j, .int .i32 (f.rest.getD j 0)]) (w.iterAt k (strOfNums f.rest) (j + 1)) := by
  have hsz := strOfNums_size f.rest
  have hjs : j < (strOfNums f.rest).size := by omega
  have hb := (Sn.form_bytes hf).2.1 (f.rest.getD j 0) (by simp [List.getD, hj])
  have hv : (((strOfNums f.rest)[j]'hjs).toNat : Int) = f.rest.getD j 0 := by
    have e : (strOfNums f.rest)[j]'hjs = UInt8.ofNat (f.rest.getD j 0).toNat := by
      have := strOfNums_data f.rest
      show (strOfNums f.rest).data[j] = _
      have e2 : (strOfNums f.rest).data.toList[j]? = some (UInt8.ofNat (f.rest.getD j 0).toNat) := by rw [this]; simp [List.getD, hj]
      have e3 : (strOfNums f.rest).data.toList[j]? = some ((strOfNums f.rest).data[j]'hjs) := by simp [Array.getElem?_toList, hjs]
      rw [e3] at e2
      exact Option.some.inj e2
    rw [e]
    revert hb
    generalize f.rest.getD j 0 = c
    intro hb
    simp
    omega
  have h128 : ((strOfNums f.rest)[j]'hjs).toNat < 128 := by omega
  rw [Lib.run_next_ascii_at w k _ j ty hk hjs h128, hv]
/-- what fit hands back, and what it leaves -/
def FitP (w : World) (n : Nat) (R : Except Nat Sy.It) (e : Ending) (w' : World) : Prop :=
  (match R with
    | .ok i => e = .returned (.tuple #[ItV i, .int .i64 (n : Int), .bool true])
    | .error m => e = .returned (.tuple #[ItV Sy.t0, .int .i64 (m : Int), .bool false])) ∧ Below w.heap.size w w'
theorem FitP.ok {w : World} {n : Nat} {R : Except Nat Sy.It} {e : Ending} {w' : World} {i : Sy.It} (hR : R = .ok i) (he : e = .returned (.tuple #[ItV i, .int .i64 (n : Int), .bool true])) (hb : Below w.heap.size w w') : FitP w n R e w' := by
  subst hR; exact ⟨he, hb⟩
theorem FitP.err {w : World} {n : Nat} {R : Except Nat Sy.It} {e : Ending} {w' : World} {m : Nat} (hR : R = .error m) (he : e = .returned (.tuple #[ItV Sy.t0, .int .i64 (m : Int), .bool false])) (hb : Below w.heap.size w w') : FitP w n R e w' := by
  subst hR; exact ⟨he, hb⟩
abbrev FmV (f : Sn.Fm) : Value := .agg #[.string (strOfNums f.word), .string (strOfNums f.rest), .int .i64 f.kind, .int .i64 f.ins, .int .i64 f.op, .bool f.secret]
end
section
open Go.RowKit
theorem fg_below {w w1 w2 : World} {g : Nat} (hb : Below w.heap.size w w1) (f : Fg g w1 w2) (hg : w.heap.size ≤ g) : Below w.heap.size w w2 :=
  ⟨f.os.trans hb.os, f.tape.trans hb.tape, f.output.trans hb.output, Nat.le_trans hb.size f.size, fun k hk => (f.block k (Nat.lt_of_lt_of_le hk hb.size) (by omega)).trans (hb.block k hk)⟩
theorem wp_begin {w : World} {ops : Array Oper} {rest : List Oper} {o : Oper} {a : Act} {Q : Exit → Act → World → Prop} (hgd : o.guard = none) (x y : Operand) (ho : o.op = .store 55 x y) (cs : Array Value) (t : TypeId)
    (i : Sy.It) (hx : a.eval x = .pointer (some ⟨w.heap.size + 1 + 1, 0, none⟩)) (hy : a.eval y = ItV i)
    (h : ∀ W, W.heap[w.heap.size]? = some (.cells cs t (0, 0)) → W.heap[w.heap.size + 1]? = some (.cells (ItC Sy.t0) 55 (0, 0)) → ItB W (w.heap.size + 1 + 1) i → Below w.heap.size w W → W.heap.size = w.heap.size + 1 + 1 + 1 → wpList Tryd.prog ops Q rest (a.put o.dst undef) W) :
    wpList Tryd.prog ops Q (o :: rest) a (((w.alloc (.cells cs t)).alloc (.cells (ItC Sy.t0) 55)).alloc (.cells (ItC Sy.t0) 55)) := by
  have n0 := heap_alloc_new w (.cells cs t)
  have n1 := heap_alloc_new (w.alloc (.cells cs t)) (.cells (ItC Sy.t0) 55)
  have n2 := heap_alloc_new ((w.alloc (.cells cs t)).alloc (.cells (ItC Sy.t0) 55)) (.cells (ItC Sy.t0) 55)
  have e1 : (w.alloc (.cells cs t)).heap.size = w.heap.size + 1 := by simp
  have e2 : ((w.alloc (.cells cs t)).alloc (.cells (ItC Sy.t0) 55)).heap.size = w.heap.size + 1 + 1 := by simp
  rw [e1] at n1
  rw [e2] at n2
  refine wp_storeIt hgd x y ho (w.heap.size + 1 + 1) i hx hy _ _ n2 rfl ?_
  refine h _ ?_ ?_ (setRow_heap _ _ _ _ _ _ n2) (upS (upA (upA (upA (up0 w) _) _) _) _ (by omega) _) (by simp)
  · exact (setRow_other _ _ _ _ (by omega)).trans ((heap_alloc_old _ _ (by rw [e2]; omega)).trans ((heap_alloc_old _ _ (by rw [e1]; omega)).trans n0))
  · exact (setRow_other _ _ _ _ (by omega)).trans ((heap_alloc_old _ _ (by rw [e2]; omega)).trans n1)
set_option maxRecDepth 100000 in
set_option maxHeartbeats 8000000 in
theorem fit_free (f : Sn.Fm) (hf : f ∈ Sn.forms) (ts : List Lx.Tk) (L : Nat) (hL : ts.length = L) (w : World) (gT cap : Nat) (T : Sn.Tab w) (hT : TR w gT ts) (hl : L ≤ 1000000) (ha : ∀ t ∈ ts, ∀ x ∈ t.text, 0 ≤ x ∧ x < 256) (hw : f.word = []) :
    Calls Tryd.prog 22 #[FmV f, .slice (some ⟨gT, 0, none⟩) L cap] w (FitP w L (Sn.fit ts f)) := by
  have hR : Sn.fitG ts (Sn.begin_ f) f.rest 0 = Sn.fit ts f := by unfold Sn.fit; rw [if_pos hw]
  have hq := str_beq2 (xs := f.word) (ys := []) (fun y hy => by have := (Sn.form_bytes hf).1 y hy; omega) (by decide)
  have hq2 : (strOfNums ([] : List Int)).toList = [] := by rw [Lib.strOfNums_toList]; rfl
  rw [hq2, decide_eq_true hw] at hq
  have HR := Lib.hid hR; have HF := Lib.hid hf; have HL := Lib.hid hL; have HT := Lib.hid hT; have HA := Lib.hid ha; have HTAB := Lib.hid T
  clear hR hf hL hT ha T hq2 hw
  generalize Sn.fit ts f = R at *
  go_enter Tryd.func22, Tryd.ntmps22
  go_wp2_with (show wpList _ _ _ (⟨none, .store 55 (.tmp 7) _, _, _, _, _⟩ :: _) _ _; refine wp_begin rfl _ _ rfl _ _ (Sn.begin_ f) rfl rfl ?_; intro W h0 h1 h2 hB hS; have c0 := cell_of_row _ _ 0 _ _ _ h0; have c1 := cell_of_row _ _ 1 _ _ _ h0; have H1 := Lib.hid h1; have H2 := Lib.hid h2; have HB := Lib.hid hB; clear h0 h1 h2 hB)
  go_loopw [8] (fun v8 wr => ∃ (j n : Nat) (i : Sy.It), v8 = .int .i64 (n : Int) ∧ n ≤ L ∧ j ≤ f.rest.length ∧ wr.heap[w.heap.size + 1 + 1 + 1]? = some (.stringIter (strOfNums f.rest) j) ∧ ItB wr (w.heap.size + 1 + 1) i ∧ wr.heap[w.heap.size + 1]? = some (.cells (ItC Sy.t0) 55 (0, 0)) ∧ Below w.heap.size w wr ∧ Sn.fitG ts i (f.rest.drop j) n = R) (fun _ wr => (f.rest.length + 1) - wr.iterPos (w.heap.size + 1 + 1 + 1))
  case atStart => exact ⟨0, 0, Sn.begin_ f, rfl, by omega, Nat.zero_le _, (by have := World.iter_heap W (strOfNums f.rest) 0; rwa [hS] at this), (heap_alloc_old _ _ (by omega)).trans H2.out, (heap_alloc_old _ _ (by omega)).trans H1.out, upA HB.out _, by rw [List.drop_zero]; exact HR.out⟩
  case round =>
    obtain ⟨j, n, i, rfl, hn, hj, hit, hI, hZ, hbw, hG⟩ := hrel
    obtain ⟨wo, rfl⟩ : ∃ wo : World, wo = wr := ⟨_, rfl⟩
    have hlt := (Array.getElem?_eq_some_iff.1 hit).1
    have hpos : wo.iterPos (w.heap.size + 1 + 1 + 1) = j := by simp [World.iterPos, hit]
    by_cases hjl : j < f.rest.length
    · have hrun := fun ty => next_piece (P := Tryd.prog) HF.out hit hjl ty
      have hp := piece_of HF.out hjl
      rw [drop_piece hjl] at hG
      have hit2 := Lib.iterAt_heap wo (w.heap.size + 1 + 1 + 1) (strOfNums f.rest) j (j + 1) hit
      have hI2 : ItB (wo.iterAt (w.heap.size + 1 + 1 + 1) (strOfNums f.rest) (j + 1)) (w.heap.size + 1 + 1) i := (Lib.iterAt_other _ _ _ _ _ (by omega)).trans hI
      have hZ2 := (Lib.iterAt_other wo (w.heap.size + 1 + 1 + 1) (w.heap.size + 1) (strOfNums f.rest) (j + 1) (by omega)).trans hZ
      have hb2 := Lib.below_iterAt hbw (k := w.heap.size + 1 + 1 + 1) (by omega) (strOfNums f.rest) (j + 1)
      have hsz := Lib.iterAt_size wo (w.heap.size + 1 + 1 + 1) (strOfNums f.rest) (j + 1)
      generalize wo.iterAt (w.heap.size + 1 + 1 + 1) (strOfNums f.rest) (j + 1) = w1 at *
      have HIT := Lib.hid hit2; have HI := Lib.hid hI2; have HZ := Lib.hid hZ2; have HBW := Lib.hid hb2; have HG := Lib.hid hG; have HP := Lib.hid hp
      clear hit2 hI2 hZ2 hb2 hG hp hit hI hZ hbw
      generalize f.rest.getD j 0 = p at *
      by_cases h32 : p = 32
      · have hG' : Sn.fitG ts i (f.rest.drop (j + 1)) n = R := by rw [← HG.out, Sn.fitG, if_pos h32]
        subst h32
        have HG' := Lib.hid hG'
        clear hG'
        go_wp2_with fail
        go_roundw
        case rel => exact ⟨j + 1, n, i, rfl, hn, by omega, HIT.out, HI.out, HZ.out, HBW.out, HG'.out⟩
        case measure =>
          have e1 : w1.iterPos (w.heap.size + 1 + 1 + 1) = j + 1 := by simp [World.iterPos, HIT.out]
          rw [e1, hpos]; omega
      · have H32 := Lib.hid h32
        by_cases hnl : n < L
        · have hnl' : n < ts.length := by rw [HL.out]; exact hnl
          obtain ⟨t, ht⟩ : ∃ t, ts[n]? = some t := ⟨ts[n], by simp [hnl']⟩
          have hta := HA.out t (List.mem_of_getElem? ht)
          have hTR := HT.out.below HBW.out
          obtain ⟨_, x1, x2, x3, x4⟩ := hTR n t ht
          have htk := take_any w1 (w.heap.size + 1 + 1) i p (HP.out.resolve_left h32) t (HTAB.out.below HBW.out) HI.out hta
          have hG1 : R = if (Sn.take i p t).2 = true then Sn.fitG ts (Sn.take i p t).1 (f.rest.drop (j + 1)) (n + 1) else .error n := by
            rw [← HG.out, Sn.fitG, if_neg h32, ht]
          have HG1 := Lib.hid hG1; have HTK := Lib.hid htk
          clear hG1 htk hTR hta ht
          generalize Sn.take i p t = X at *
          obtain ⟨ri, rb⟩ := X
          obtain ⟨kd, tx, tn, ta⟩ := t
          simp only at x1 x2 x3 x4
          have hnn : ¬ (n : Int) = (L : Int) := by omega
          have hnb : ((n : Int) == (L : Int)) = false := by simpa using hnn
          have hn0 : (0 : Int) ≤ (n : Int) := by omega
          have hn1 : (n : Int) < (L : Int) := by omega
          cases rb
          · go_wp2_with (first
              | (go_at_call 43; refine HTK.out.mono ?_; rintro e w4 ⟨rfl, h4, f4⟩; have z4 := (f4.block (w.heap.size + 1) (by rw [hsz]; omega) (by omega)).trans HZ.out; have b4 := fg_below HBW.out f4 (by omega))
              | (refine wp_storeIt rfl _ _ rfl (w.heap.size + 1) Sy.t0 rfl rfl _ _ z4 rfl ?_))
            (try simp only [Exit.inBlock, Exit.then])
            refine bodyPost_ret (resIt3 rfl _ _ _ _ _ _ rfl (setRow_heap _ _ _ _ _ _ z4)) rfl ?_
            exact FitP.err (m := n) (by rw [HG1.out]; rfl) rfl (upS b4 _ (by omega) _)
          · go_wp2_with (go_at_call 43; refine HTK.out.mono ?_; rintro e w4 ⟨rfl, h4, f4⟩; have z4 := (f4.block (w.heap.size + 1) (by rw [hsz]; omega) (by omega)).trans HZ.out; have b4 := fg_below HBW.out f4 (by omega); have it4 := (f4.block (w.heap.size + 1 + 1 + 1) (by rw [hsz]; omega) (by omega)).trans HIT.out)
            go_roundw
            case rel => exact ⟨j + 1, n + 1, ri, by go_num, by omega, by omega, it4, h4, z4, b4, by rw [HG1.out]; rfl⟩
            case measure =>
              have e1 : w4.iterPos (w.heap.size + 1 + 1 + 1) = j + 1 := by simp [World.iterPos, it4]
              rw [e1, hpos]; omega
        · have hnn : (n : Int) = (L : Int) := by omega
          have hnb : ((n : Int) == (L : Int)) = true := by simpa using hnn
          have hG1 : R = .error L := by
            rw [← HG.out, Sn.fitG, if_neg h32, List.getElem?_eq_none (by rw [HL.out]; omega), show n = L by omega]
          have HG1 := Lib.hid hG1
          clear hG1
          go_wp2_with (refine wp_storeIt rfl _ _ rfl (w.heap.size + 1) Sy.t0 rfl rfl _ _ HZ.out rfl ?_)
          (try simp only [Exit.inBlock, Exit.then])
          refine bodyPost_ret (resIt3 rfl _ _ _ _ _ _ rfl (setRow_heap _ _ _ _ _ _ HZ.out)) rfl ?_
          exact FitP.err (m := L) HG1.out rfl (upS HBW.out _ (by omega) _)
    · have hjs : ¬ j < (strOfNums f.rest).size := by rw [strOfNums_size]; exact hjl
      have hrun : ∀ ty, (Instr.next (.pointer (some ⟨w.heap.size + 1 + 1 + 1, 0, none⟩)) true ty).run Tryd.prog wo = .ok (.tuple #[.bool false]) wo := fun ty => Lib.run_next_end_at wo (w.heap.size + 1 + 1 + 1) (strOfNums f.rest) j ty hit hjs
      rw [List.drop_eq_nil_of_le (by omega)] at hG
      have HIT := Lib.hid hit; have HI := Lib.hid hI; have HZ := Lib.hid hZ; have HBW := Lib.hid hbw; have HG := Lib.hid hG
      clear hit hI hZ hbw hG
      by_cases hnl : n < L
      · have hG1 : R = .error n := by rw [← HG.out, Sn.fitG, if_pos (by rw [HL.out]; exact hnl)]
        have hn1 : (n : Int) < (L : Int) := by omega
        have HG1 := Lib.hid hG1
        clear hG1
        go_wp2_with (refine wp_storeIt rfl _ _ rfl (w.heap.size + 1) Sy.t0 rfl rfl _ _ HZ.out rfl ?_)
        (try simp only [Exit.inBlock, Exit.then])
        refine bodyPost_ret (resIt3 rfl _ _ _ _ _ _ rfl (setRow_heap _ _ _ _ _ _ HZ.out)) rfl ?_
        exact FitP.err (m := n) HG1.out rfl (upS HBW.out _ (by omega) _)
      · have hG1 : R = .ok i := by rw [← HG.out, Sn.fitG, if_neg (by rw [HL.out]; exact hnl)]
        have hn1 : ¬ (n : Int) < (L : Int) := by omega
        have hnL : n = L := by omega
        have HG1 := Lib.hid hG1
        clear hG1
        go_wp2_with (first
          | (refine wp_loadIt rfl _ rfl (w.heap.size + 1 + 1) rfl i _ _ HI.out ?_)
          | (refine wp_storeIt rfl _ _ rfl (w.heap.size + 1) i rfl rfl _ _ HZ.out rfl ?_))
        (try simp only [Exit.inBlock, Exit.then])
        refine bodyPost_ret (resIt3 rfl _ _ _ _ _ _ rfl (setRow_heap _ _ _ _ _ _ HZ.out)) rfl ?_
        exact FitP.ok HG1.out (by rw [← hnL]; rfl) (upS HBW.out _ (by omega) _)
set_option maxRecDepth 100000 in
set_option maxHeartbeats 8000000 in
theorem fit_word (f : Sn.Fm) (hf : f ∈ Sn.forms) (t0 : Lx.Tk) (ts : List Lx.Tk) (L : Nat) (hL : ts.length = L) (w : World) (gT cap : Nat) (T : Sn.Tab w) (hT : TR w gT ts) (hl : L ≤ 1000000) (ha : ∀ t ∈ ts, ∀ x ∈ t.text, 0 ≤ x ∧ x < 256) (h0 : ts[0]? = some t0) (hw : f.word ≠ []) :
    Calls Tryd.prog 22 #[FmV f, .slice (some ⟨gT, 0, none⟩) L cap] w (FitP w L (Sn.fit ts f)) := by
  have hl0 : 0 < L := by rw [← hL]; exact (List.getElem?_eq_some_iff.1 h0).1
  have e0 : Sy.tokAt ts 0 0 = t0 := by unfold Sy.tokAt; rw [h0]; rfl
  have hfb := fun y hy => (show 0 ≤ y ∧ y < (256 : Int) by have := (Sn.form_bytes hf).1 y hy; omega)
  have hq := str_beq2 (xs := f.word) (ys := []) hfb (by decide)
  have hq2 : (strOfNums ([] : List Int)).toList = [] := by rw [Lib.strOfNums_toList]; rfl
  rw [hq2, decide_eq_false hw] at hq
  have hqt := str_beq2 (xs := t0.text) (ys := f.word) (ha t0 (List.mem_of_getElem? h0)) hfb
  have HX := Lib.hid hT
  have hx := fun (W : World) (hb : Below w.heap.size w W) => (HX.out.below hb 0 t0 h0).2.2.1
  have HXX := Lib.hid hx
  by_cases hm : t0.text = f.word
  · have hR : Sn.fitG ts (Sn.begin_ f) f.rest 1 = Sn.fit ts f := by unfold Sn.fit; rw [if_neg hw, e0, if_pos hm]
    rw [decide_eq_true hm] at hqt
    have HR := Lib.hid hR; have HF := Lib.hid hf; have HL := Lib.hid hL; have HT := Lib.hid hT; have HA := Lib.hid ha; have HTAB := Lib.hid T
    clear hR hf hL hT ha T hq2 hw hm hfb h0 e0 HX hx
    generalize Sn.fit ts f = R at *
    go_enter Tryd.func22, Tryd.ntmps22
    go_wp2_with (show wpList _ _ _ (⟨none, .store 55 (.tmp 7) _, _, _, _, _⟩ :: _) _ _; refine wp_begin rfl _ _ rfl _ _ (Sn.begin_ f) rfl rfl ?_; intro W h0 h1 h2 hB hS; have c0 := cell_of_row _ _ 0 _ _ _ h0; have c1 := cell_of_row _ _ 1 _ _ _ h0; have H1 := Lib.hid h1; have H2 := Lib.hid h2; have HB := Lib.hid hB; have cx := HXX.out W hB; clear h0 h1 h2 hB)
    go_quiet (fail)
    have h1 : (W.drewN nq).heap[w.heap.size + 1]? = some (.cells (ItC Sy.t0) 55 (0, 0)) := H1.out
    have h2 : ItB (W.drewN nq) (w.heap.size + 1 + 1) (Sn.begin_ f) := H2.out
    have hB : Below w.heap.size w (W.drewN nq) := upD HB.out nq
    have hS' : (W.drewN nq).heap.size = w.heap.size + 1 + 1 + 1 := hS
    have c1' : (W.drewN nq).cell? ⟨w.heap.size, 1, none⟩ = some (.string (strOfNums f.rest)) := c1
    clear H1 H2 HB hS c0 c1 cx
    generalize W.drewN nq = W1 at *
    have H1 := Lib.hid h1; have H2 := Lib.hid h2; have HB := Lib.hid hB
    clear h1 h2 hB
    go_wp2_with fail
    go_loopw [8] (fun v8 wr => ∃ (j n : Nat) (i : Sy.It), v8 = .int .i64 (n : Int) ∧ n ≤ L ∧ j ≤ f.rest.length ∧ wr.heap[w.heap.size + 1 + 1 + 1]? = some (.stringIter (strOfNums f.rest) j) ∧ ItB wr (w.heap.size + 1 + 1) i ∧ wr.heap[w.heap.size + 1]? = some (.cells (ItC Sy.t0) 55 (0, 0)) ∧ Below w.heap.size w wr ∧ Sn.fitG ts i (f.rest.drop j) n = R) (fun _ wr => (f.rest.length + 1) - wr.iterPos (w.heap.size + 1 + 1 + 1))
    case atStart => exact ⟨0, 1, Sn.begin_ f, rfl, by omega, Nat.zero_le _, (by have := World.iter_heap W1 (strOfNums f.rest) 0; rwa [hS'] at this), (heap_alloc_old _ _ (by omega)).trans H2.out, (heap_alloc_old _ _ (by omega)).trans H1.out, upA HB.out _, by rw [List.drop_zero]; exact HR.out⟩
    case round =>
      obtain ⟨j, n, i, rfl, hn, hj, hit, hI, hZ, hbw, hG⟩ := hrel
      obtain ⟨wo, rfl⟩ : ∃ wo : World, wo = wr := ⟨_, rfl⟩
      have hlt := (Array.getElem?_eq_some_iff.1 hit).1
      have hpos : wo.iterPos (w.heap.size + 1 + 1 + 1) = j := by simp [World.iterPos, hit]
      by_cases hjl : j < f.rest.length
      · have hrun := fun ty => next_piece (P := Tryd.prog) HF.out hit hjl ty
        have hp := piece_of HF.out hjl
        rw [drop_piece hjl] at hG
        have hit2 := Lib.iterAt_heap wo (w.heap.size + 1 + 1 + 1) (strOfNums f.rest) j (j + 1) hit
        have hI2 : ItB (wo.iterAt (w.heap.size + 1 + 1 + 1) (strOfNums f.rest) (j + 1)) (w.heap.size + 1 + 1) i := (Lib.iterAt_other _ _ _ _ _ (by omega)).trans hI
        have hZ2 := (Lib.iterAt_other wo (w.heap.size + 1 + 1 + 1) (w.heap.size + 1) (strOfNums f.rest) (j + 1) (by omega)).trans hZ
        have hb2 := Lib.below_iterAt hbw (k := w.heap.size + 1 + 1 + 1) (by omega) (strOfNums f.rest) (j + 1)
        have hsz := Lib.iterAt_size wo (w.heap.size + 1 + 1 + 1) (strOfNums f.rest) (j + 1)
        generalize wo.iterAt (w.heap.size + 1 + 1 + 1) (strOfNums f.rest) (j + 1) = w1 at *
        have HIT := Lib.hid hit2; have HI := Lib.hid hI2; have HZ := Lib.hid hZ2; have HBW := Lib.hid hb2; have HG := Lib.hid hG; have HP := Lib.hid hp
        clear hit2 hI2 hZ2 hb2 hG hp hit hI hZ hbw
        generalize f.rest.getD j 0 = p at *
        by_cases h32 : p = 32
        · have hG' : Sn.fitG ts i (f.rest.drop (j + 1)) n = R := by rw [← HG.out, Sn.fitG, if_pos h32]
          subst h32
          have HG' := Lib.hid hG'
          clear hG'
          go_wp2_with fail
          go_roundw
          case rel => exact ⟨j + 1, n, i, rfl, hn, by omega, HIT.out, HI.out, HZ.out, HBW.out, HG'.out⟩
          case measure =>
            have e1 : w1.iterPos (w.heap.size + 1 + 1 + 1) = j + 1 := by simp [World.iterPos, HIT.out]
            rw [e1, hpos]; omega
        · have H32 := Lib.hid h32
          by_cases hnl : n < L
          · have hnl' : n < ts.length := by rw [HL.out]; exact hnl
            obtain ⟨t, ht⟩ : ∃ t, ts[n]? = some t := ⟨ts[n], by simp [hnl']⟩
            have hta := HA.out t (List.mem_of_getElem? ht)
            have hTR := HT.out.below HBW.out
            obtain ⟨_, x1, x2, x3, x4⟩ := hTR n t ht
            have htk := take_any w1 (w.heap.size + 1 + 1) i p (HP.out.resolve_left h32) t (HTAB.out.below HBW.out) HI.out hta
            have hG1 : R = if (Sn.take i p t).2 = true then Sn.fitG ts (Sn.take i p t).1 (f.rest.drop (j + 1)) (n + 1) else .error n := by
              rw [← HG.out, Sn.fitG, if_neg h32, ht]
            have HG1 := Lib.hid hG1; have HTK := Lib.hid htk
            clear hG1 htk hTR hta ht
            generalize Sn.take i p t = X at *
            obtain ⟨ri, rb⟩ := X
            obtain ⟨kd, tx, tn, ta⟩ := t
            simp only at x1 x2 x3 x4
            have hnn : ¬ (n : Int) = (L : Int) := by omega
            have hnb : ((n : Int) == (L : Int)) = false := by simpa using hnn
            have hn0 : (0 : Int) ≤ (n : Int) := by omega
            have hn1 : (n : Int) < (L : Int) := by omega
            cases rb
            · go_wp2_with (first
                | (go_at_call 43; refine HTK.out.mono ?_; rintro e w4 ⟨rfl, h4, f4⟩; have z4 := (f4.block (w.heap.size + 1) (by rw [hsz]; omega) (by omega)).trans HZ.out; have b4 := fg_below HBW.out f4 (by omega))
                | (refine wp_storeIt rfl _ _ rfl (w.heap.size + 1) Sy.t0 rfl rfl _ _ z4 rfl ?_))
              (try simp only [Exit.inBlock, Exit.then])
              refine bodyPost_ret (resIt3 rfl _ _ _ _ _ _ rfl (setRow_heap _ _ _ _ _ _ z4)) rfl ?_
              exact FitP.err (m := n) (by rw [HG1.out]; rfl) rfl (upS b4 _ (by omega) _)
            · go_wp2_with (go_at_call 43; refine HTK.out.mono ?_; rintro e w4 ⟨rfl, h4, f4⟩; have z4 := (f4.block (w.heap.size + 1) (by rw [hsz]; omega) (by omega)).trans HZ.out; have b4 := fg_below HBW.out f4 (by omega); have it4 := (f4.block (w.heap.size + 1 + 1 + 1) (by rw [hsz]; omega) (by omega)).trans HIT.out)
              go_roundw
              case rel => exact ⟨j + 1, n + 1, ri, by go_num, by omega, by omega, it4, h4, z4, b4, by rw [HG1.out]; rfl⟩
              case measure =>
                have e1 : w4.iterPos (w.heap.size + 1 + 1 + 1) = j + 1 := by simp [World.iterPos, it4]
                rw [e1, hpos]; omega
          · have hnn : (n : Int) = (L : Int) := by omega
            have hnb : ((n : Int) == (L : Int)) = true := by simpa using hnn
            have hG1 : R = .error L := by
              rw [← HG.out, Sn.fitG, if_neg h32, List.getElem?_eq_none (by rw [HL.out]; omega), show n = L by omega]
            have HG1 := Lib.hid hG1
            clear hG1
            go_wp2_with (refine wp_storeIt rfl _ _ rfl (w.heap.size + 1) Sy.t0 rfl rfl _ _ HZ.out rfl ?_)
            (try simp only [Exit.inBlock, Exit.then])
            refine bodyPost_ret (resIt3 rfl _ _ _ _ _ _ rfl (setRow_heap _ _ _ _ _ _ HZ.out)) rfl ?_
            exact FitP.err (m := L) HG1.out rfl (upS HBW.out _ (by omega) _)
      · have hjs : ¬ j < (strOfNums f.rest).size := by rw [strOfNums_size]; exact hjl
        have hrun : ∀ ty, (Instr.next (.pointer (some ⟨w.heap.size + 1 + 1 + 1, 0, none⟩)) true ty).run Tryd.prog wo = .ok (.tuple #[.bool false]) wo := fun ty => Lib.run_next_end_at wo (w.heap.size + 1 + 1 + 1) (strOfNums f.rest) j ty hit hjs
        rw [List.drop_eq_nil_of_le (by omega)] at hG
        have HIT := Lib.hid hit; have HI := Lib.hid hI; have HZ := Lib.hid hZ; have HBW := Lib.hid hbw; have HG := Lib.hid hG
        clear hit hI hZ hbw hG
        by_cases hnl : n < L
        · have hG1 : R = .error n := by rw [← HG.out, Sn.fitG, if_pos (by rw [HL.out]; exact hnl)]
          have hn1 : (n : Int) < (L : Int) := by omega
          have HG1 := Lib.hid hG1
          clear hG1
          go_wp2_with (refine wp_storeIt rfl _ _ rfl (w.heap.size + 1) Sy.t0 rfl rfl _ _ HZ.out rfl ?_)
          (try simp only [Exit.inBlock, Exit.then])
          refine bodyPost_ret (resIt3 rfl _ _ _ _ _ _ rfl (setRow_heap _ _ _ _ _ _ HZ.out)) rfl ?_
          exact FitP.err (m := n) HG1.out rfl (upS HBW.out _ (by omega) _)
        · have hG1 : R = .ok i := by rw [← HG.out, Sn.fitG, if_neg (by rw [HL.out]; exact hnl)]
          have hn1 : ¬ (n : Int) < (L : Int) := by omega
          have hnL : n = L := by omega
          have HG1 := Lib.hid hG1
          clear hG1
          go_wp2_with (first
            | (refine wp_loadIt rfl _ rfl (w.heap.size + 1 + 1) rfl i _ _ HI.out ?_)
            | (refine wp_storeIt rfl _ _ rfl (w.heap.size + 1) i rfl rfl _ _ HZ.out rfl ?_))
          (try simp only [Exit.inBlock, Exit.then])
          refine bodyPost_ret (resIt3 rfl _ _ _ _ _ _ rfl (setRow_heap _ _ _ _ _ _ HZ.out)) rfl ?_
          exact FitP.ok HG1.out (by rw [← hnL]; rfl) (upS HBW.out _ (by omega) _)
  · have hR : Sn.fit ts f = .error 0 := by unfold Sn.fit; rw [if_neg hw, e0, if_neg hm]
    rw [decide_eq_false hm] at hqt
    have HR := Lib.hid hR; have HF := Lib.hid hf; have HTAB := Lib.hid T
    clear hR hf hL hT ha T hq2 hw hm hfb h0 e0 HX hx
    generalize Sn.fit ts f = R at *
    go_enter Tryd.func22, Tryd.ntmps22
    go_wp2_with (show wpList _ _ _ (⟨none, .store 55 (.tmp 7) _, _, _, _, _⟩ :: _) _ _; refine wp_begin rfl _ _ rfl _ _ (Sn.begin_ f) rfl rfl ?_; intro W h0 h1 h2 hB hS; have c0 := cell_of_row _ _ 0 _ _ _ h0; have c1 := cell_of_row _ _ 1 _ _ _ h0; have H1 := Lib.hid h1; have H2 := Lib.hid h2; have HB := Lib.hid hB; have cx := HXX.out W hB; clear h0 h1 h2 hB)
    go_quiet (fail)
    have h1 : (W.drewN nq).heap[w.heap.size + 1]? = some (.cells (ItC Sy.t0) 55 (0, 0)) := H1.out
    have hB : Below w.heap.size w (W.drewN nq) := upD HB.out nq
    clear H1 H2 HB hS c0 c1 cx
    generalize W.drewN nq = W1 at *
    have H1 := Lib.hid h1; have HB := Lib.hid hB
    clear h1 hB
    go_wp2_with (refine wp_storeIt rfl _ _ rfl (w.heap.size + 1) Sy.t0 rfl rfl _ _ H1.out rfl ?_)
    (try simp only [Exit.inBlock, Exit.then])
    refine bodyPost_ret (resIt3 rfl _ _ _ _ _ _ rfl (setRow_heap _ _ _ _ _ _ H1.out)) rfl ?_
    exact FitP.err (m := 0) HR.out rfl (upS HB.out _ (by omega) _)
theorem fit_any (f : Sn.Fm) (hf : f ∈ Sn.forms) (ts : List Lx.Tk) (hne : ts ≠ []) (w : World) (gT cap : Nat) (T : Sn.Tab w) (hT : TR w gT ts) (hl : ts.length ≤ 1000000) (ha : ∀ t ∈ ts, ∀ x ∈ t.text, 0 ≤ x ∧ x < 256) :
    Calls Tryd.prog 22 #[FmV f, .slice (some ⟨gT, 0, none⟩) ts.length cap] w (FitP w ts.length (Sn.fit ts f)) := by
  by_cases hw : f.word = []
  · exact fit_free f hf ts _ rfl w gT cap T hT hl ha hw
  · cases ts with
    | nil => exact absurd rfl hne
    | cons t0 l => exact fit_word f hf t0 _ _ rfl w gT cap T hT hl ha rfl hw
end
section
open Go.RowKit
theorem good_asc {t : Lx.Tk} (h : Lx.Good t) : ∀ x ∈ t.text, 0 ≤ x ∧ x < 256 := by
  rcases h with ⟨_, _, c, r, e, h1, h2⟩ | ⟨_, _, c, r, e, h1, h2⟩ | ⟨_, _, c, e, h1⟩
  · intro x hx
    have := h2 x hx
    simp [Lx.word, Lx.lower, Lx.dig] at this
    omega
  · intro x hx
    have := digs_dig (c := c) (r := r) h1 x (by rw [← e, h2]; exact hx)
    simp [Lx.dig] at this
    omega
  · intro x hx
    rw [e] at hx
    simp at hx
    subst hx
    have := Sn.sgn_not h1
    omega
theorem count_runes (s : ByteArray) : ∀ (f p : Nat), Lib.runeCountFrom s f p = (Lx.runesF s f p).length
  | 0, p => rfl
  | f + 1, p => by
    unfold Lib.runeCountFrom Lx.runesF
    by_cases h : p < s.size
    · rw [if_pos h, if_pos h, count_runes s f]; simp; omega
    · rw [if_neg h, if_neg h]; rfl
theorem count_all (s : ByteArray) : Lib.runeCount s = (Lx.runes s).length := count_runes s s.size 0
namespace Sn
theorem fit_le {ts : List Lx.Tk} (hne : ts ≠ []) {f : Fm} {n : Nat} (h : fit ts f = .error n) : n ≤ ts.length := by
  have hl : 1 ≤ ts.length := List.length_pos_iff.2 hne
  have key : ∀ k, k ≤ ts.length → fitG ts (begin_ f) f.rest k = .error n → n ≤ ts.length := fun k hk h => by
    have := fitG_run (ts := ts) (long := 0) f.rest (begin_ f) ⟨k, -1⟩ (by show (-1 : Int) < 0; decide) hk
    rw [h] at this
    exact this.2.1
  unfold fit at h
  split at h
  · exact key 0 (Nat.zero_le _) h
  · split at h
    · exact key 1 hl h
    · injection h with h; omega
end Sn
/-- what Parse hands back, and what it leaves -/
def ParseP (w : World) (R : Except Nat Sy.It) (e : Ending) (w' : World) : Prop :=
  (match R with
    | .ok i => e = .returned (.tuple #[ItV i, .int .i64 0, .bool true])
    | .error m => e = .returned (.tuple #[ItV Sy.t0, .int .i64 (m : Int), .bool false])) ∧ Below w.heap.size w w'
theorem ParseP.ok {w : World} {R : Except Nat Sy.It} {e : Ending} {w' : World} {i : Sy.It} (hR : R = .ok i) (he : e = .returned (.tuple #[ItV i, .int .i64 0, .bool true])) (hb : Below w.heap.size w w') : ParseP w R e w' := by
  subst hR; exact ⟨he, hb⟩
theorem ParseP.err {w : World} {R : Except Nat Sy.It} {e : Ending} {w' : World} {m : Nat} (hR : R = .error m) (he : e = .returned (.tuple #[ItV Sy.t0, .int .i64 (m : Int), .bool false])) (hb : Below w.heap.size w w') : ParseP w R e w' := by
  subst hR; exact ⟨he, hb⟩
theorem step_storeIt {w : World} {ops : Array Oper} {o : Oper} {a : Act} {K : Act → World → Prop} {Q : Exit → Act → World → Prop} {E : Prop} (hgd : o.guard = none) (x y : Operand) (ho : o.op = .store 55 x y)
    (g : Nat) (i : Sy.It) (hx : a.eval x = .pointer (some ⟨g, 0, none⟩)) (hy : a.eval y = ItV i) (t : TypeId) (os : Array Value) (hg : w.heap[g]? = some (.cells os t (0, 0))) (hs : os.size = 13)
    (h : K (a.put o.dst undef) (w.setRow g (ItC i))) :
    if Region.wanted o (yielded ops a.tmps) = true then Oper.wp Tryd.prog o a w K Q else E := by
  have hw : Region.wanted o (yielded ops a.tmps) = true := by simp [Region.wanted, hgd]
  rw [if_pos hw]
  exact wp_store_row _ x y ho g _ hx hy t _ hg infoIt (by rw [hs]; rfl) (by simp [oneI, oneB, oneS]) h
set_option maxRecDepth 100000 in
set_option maxHeartbeats 8000000 in
theorem parse_err (s : ByteArray) (w : World) (hs : s.size ≤ 1000000) (a : Nat) (hl : Lx.lxA 0 (Lx.runes s) = .error a) : Calls Tryd.prog 12 #[.string s] w (ParseP w (.error a)) := by
  have hline : ∀ W, Calls Tryd.prog 21 #[.string s] W (LineR (.error a) W) := fun W => by rw [← hl]; exact line_any s W hs
  have HLINE := Lib.hid hline
  have hn := heap_alloc_new w (.cells (ItC Sy.t0) 55)
  have HN := Lib.hid hn
  clear hline hl hn
  go_enter Tryd.func12, Tryd.ntmps12
  go_wp2_with (first
    | (go_at_call 21; refine (HLINE.out _).mono ?_; intro e w1 h1; obtain ⟨rfl, hb1⟩ := h1.errT; have z1 := (hb1.block w.heap.size (by simp)).trans HN.out; have b1 := upT (upA (up0 w) _) hb1)
    | (refine wp_storeIt rfl _ _ rfl w.heap.size Sy.t0 rfl rfl _ _ z1 rfl ?_))
  (try simp only [Exit.inBlock, Exit.then])
  refine bodyPost_ret (resIt3 rfl _ _ _ _ _ _ rfl (setRow_heap _ _ _ _ _ _ z1)) rfl ?_
  exact ParseP.err (m := a) rfl rfl (upS b1 _ (by omega) _)
set_option maxRecDepth 100000 in
set_option maxHeartbeats 8000000 in
theorem parse_nil (s : ByteArray) (w : World) (hs : s.size ≤ 1000000) (hl : Lx.lxA 0 (Lx.runes s) = .ok []) : Calls Tryd.prog 12 #[.string s] w (ParseP w (.ok Sy.t0)) := by
  have hline : ∀ W, Calls Tryd.prog 21 #[.string s] W (LineR (.ok []) W) := fun W => by rw [← hl]; exact line_any s W hs
  have HLINE := Lib.hid hline
  have hn := heap_alloc_new w (.cells (ItC Sy.t0) 55)
  have HN := Lib.hid hn
  clear hline hl hn
  go_enter Tryd.func12, Tryd.ntmps12
  go_wp2_with (first
    | (go_at_call 21; refine (HLINE.out _).mono ?_; intro e w1 h1; obtain ⟨g, A, cap, rfl, _, hcap, _, hb1⟩ := h1.okT; have z1 := (hb1.block w.heap.size (by simp)).trans HN.out; have b1 := upT (upA (up0 w) _) hb1)
    | (refine wp_storeIt rfl _ _ rfl w.heap.size Sy.t0 rfl rfl _ _ z1 rfl ?_))
  (try simp only [Exit.inBlock, Exit.then])
  refine bodyPost_ret (resIt3 rfl _ _ _ _ _ _ rfl (setRow_heap _ _ _ _ _ _ z1)) rfl ?_
  exact ParseP.ok rfl rfl (upS b1 _ (by omega) _)
set_option maxRecDepth 100000 in
set_option maxHeartbeats 8000000 in
theorem parse_some (s : ByteArray) (w : World) (T : Sn.Tab w) (hs : s.size ≤ 1000000) (ts : List Lx.Tk) (hne : ts ≠ []) (hl : Lx.lxA 0 (Lx.runes s) = .ok ts) (G : ∀ t ∈ ts, Lx.Good t) (hlen : ts.length ≤ 1000000) :
    Calls Tryd.prog 12 #[.string s] w (ParseP w (Sn.told ts (Lx.runes s).length (Sn.best ts Sn.forms 0))) := by
  have hline : ∀ W, Calls Tryd.prog 21 #[.string s] W (LineR (.ok ts) W) := fun W => by rw [← hl]; exact line_any s W hs
  have HLINE := Lib.hid hline
  have hn := heap_alloc_new w (.cells (ItC Sy.t0) 55)
  have HN := Lib.hid hn
  have hasc : ∀ t ∈ ts, ∀ x ∈ t.text, 0 ≤ x ∧ x < 256 := fun t ht => good_asc (G t ht)
  have HASC := Lib.hid hasc; have HNE := Lib.hid hne; have HT := Lib.hid T
  have hpos : 0 < ts.length := List.length_pos_iff.2 hne
  have HPOS := Lib.hid hpos
  have p0 : (ts.length : Int) ≠ 0 := by omega
  have p1 : ((ts.length : Int) == 0) = false := by simpa using p0
  clear hline hl hn hasc hne T G
  go_enter Tryd.func12, Tryd.ntmps12
  go_wp2_with (first
    | (go_at_call 21; refine (HLINE.out _).mono ?_; intro e w1 h1; obtain ⟨gT, A, cap, rfl, hA, hcap, hTR, hb1⟩ := h1.okT; have z1 := (hb1.block w.heap.size (by simp)).trans HN.out; have b1 := upT (upA (up0 w) _) hb1; have hAe := hA HPOS.out; subst hAe; obtain ⟨tt, fr, ho⟩ := (HT.out.below b1).f; have HO := Lib.hid ho; have Z1 := Lib.hid z1; have B1 := Lib.hid b1; have HTR := Lib.hid hTR; clear ho z1 b1 hTR hb1 hA h1)
    | (refine wpList_load_row (o := ⟨_, .load 69 (.global 0), _, _, _, none⟩) rfl _ _ rfl 0 rfl _ _ _ _ HO.out Tryd.underlying69 rfl (by rw [Sn.forms_size]; exact Sn.infoForms) ?_))
  have hrow := fun k hk => Sn.forms_index (k := k) hk
  have HROW := Lib.hid hrow
  clear hrow HO
  generalize Sn.formsC = C at *
  generalize hB : Sn.best ts Sn.forms 0 = B at *
  go_loopw [8, 29] (fun v8 v29 wr => ∃ (k m : Nat), v8 = .int .i64 (m : Int) ∧ v29 = .int .i64 (k : Int) ∧ k ≤ 20 ∧ m ≤ ts.length ∧ Sn.best ts (Sn.forms.drop k) m = B ∧ Below w.heap.size w wr ∧ Below w1.heap.size w1 wr ∧ wr.heap[w.heap.size]? = some (.cells (ItC Sy.t0) 55 (0, 0))) (fun _ v29 _ => 20 - (intOf v29).toNat)
  case atStart => exact ⟨0, 0, rfl, rfl, by omega, by omega, by rw [List.drop_zero]; exact hB, B1.out, up0 w1, Z1.out⟩
  case round =>
    obtain ⟨k, m, rfl, rfl, hk, hm, hbest, hbw, hbw1, hz⟩ := hrel
    by_cases hkl : k < 20
    · obtain ⟨f, hf, hix⟩ := HROW.out k hkl
      have hdrop : Sn.forms.drop k = f :: Sn.forms.drop (k + 1) := by
        rw [List.drop_eq_getElem_cons (show k < Sn.forms.length from hkl)]
        congr 1
        exact Option.some.inj ((List.getElem?_eq_getElem (show k < Sn.forms.length from hkl)).symm.trans hf)
      rw [hdrop, Sn.best] at hbest
      have i1 : (k : Int) < 20 := by omega
      have i0 : (0 : Int) ≤ (k : Int) := by omega
      have hfit := fun (W : World) (hb : Below w.heap.size w W) (hb1 : Below w1.heap.size w1 W) => fit_any f (List.mem_of_getElem? hf) ts HNE.out W gT cap (HT.out.below hb) (HTR.out.below hb1) hlen HASC.out
      have hle := fun n h => Sn.fit_le (n := n) HNE.out (f := f) h
      have HLE := Lib.hid hle
      have HFIT := Lib.hid hfit; have HBEST := Lib.hid hbest; have HBW := Lib.hid hbw; have HBW1 := Lib.hid hbw1; have HZ := Lib.hid hz
      clear hfit hbest hbw hbw1 hz hle hdrop hf
      generalize Sn.fit ts f = X at *
      cases X with
      | ok i =>
        go_wp2_with (first
          | (go_at_call 22; refine (HFIT.out _ (upA HBW.out _) (upA HBW1.out _)).mono ?_; rintro e w4 ⟨rfl, hb4⟩; have z4 := (hb4.block w.heap.size (by have := (Array.getElem?_eq_some_iff.1 HZ.out).1; simp; omega)).trans ((heap_alloc_old _ _ (Array.getElem?_eq_some_iff.1 HZ.out).1).trans HZ.out); have b4 := upT (upA HBW.out _) hb4; have hn4 := heap_alloc_new w4 (.cells (ItC Sy.t0) 55); have hs4 := b4.size; have hl4 := (Array.getElem?_eq_some_iff.1 z4).1; have hz5 := fun cs => (setRow_other (w4.alloc (.cells (ItC Sy.t0) 55)) w4.heap.size w.heap.size cs (by omega)).trans ((heap_alloc_old _ _ hl4).trans z4); have hi5 : ∀ cs, ((w4.alloc (.cells (ItC Sy.t0) 55)).setRow w4.heap.size cs).heap[w4.heap.size]? = some (.cells cs 55 (0, 0)) := fun cs => setRow_heap _ _ _ _ _ _ hn4)
          | (refine wp_storeIt rfl _ _ rfl w4.heap.size i rfl rfl _ _ hn4 rfl ?_)
          | (refine wp_loadIt rfl _ rfl w4.heap.size rfl i _ _ (hi5 _) ?_)
          | (refine wp_storeIt rfl _ _ rfl w.heap.size i rfl rfl _ _ (hz5 _) rfl ?_))
        (try simp only [Exit.inBlock, Exit.then])
        refine bodyPost_ret (resIt3 rfl _ _ _ _ _ _ rfl (setRow_heap _ _ _ _ _ _ (hz5 _))) rfl ?_
        exact ParseP.ok (by rw [← HBEST.out]; rfl) rfl (upS (upS (upA b4 _) _ (by omega) _) _ (by omega) _)
      | error n =>
        have hn := HLE.out n rfl
        go_wp2_with (first
          | (go_at_call 22; refine (HFIT.out _ (upA HBW.out _) (upA HBW1.out _)).mono ?_; rintro e w4 ⟨rfl, hb4⟩; have z4 := (hb4.block w.heap.size (by have := (Array.getElem?_eq_some_iff.1 HZ.out).1; simp; omega)).trans ((heap_alloc_old _ _ (Array.getElem?_eq_some_iff.1 HZ.out).1).trans HZ.out); have b4 := upT (upA HBW.out _) hb4; have c4 := upT (upA HBW1.out _) hb4; have hn4 := heap_alloc_new w4 (.cells (ItC Sy.t0) 55); have hs4 := b4.size; have ht4 := c4.size; have hl4 := (Array.getElem?_eq_some_iff.1 z4).1; have hz5 := fun cs => (setRow_other (w4.alloc (.cells (ItC Sy.t0) 55)) w4.heap.size w.heap.size cs (by omega)).trans ((heap_alloc_old _ _ hl4).trans z4))
          | (refine wp_storeIt rfl _ _ rfl w4.heap.size Sy.t0 rfl rfl _ _ hn4 rfl ?_))
        go_roundw
        case rel => exact ⟨k + 1, max m n, by first | go_num | (congr 1; omega) | (congr 1; split <;> omega), by go_num, by omega, by omega, HBEST.out, upS (upA b4 _) _ (by omega) _, upS (upA c4 _) _ (by omega) _, hz5 _⟩
        case measure => simp [intOf]; omega
    · have hdn : Sn.forms.drop k = [] := List.drop_eq_nil_of_le (by show Sn.forms.length ≤ k; have : Sn.forms.length = 20 := rfl; omega)
      rw [hdn, Sn.best] at hbest
      have i1 : ¬ (k : Int) < 20 := by omega
      have HBW := Lib.hid hbw; have HZ := Lib.hid hz; have HBEST := Lib.hid hbest
      have hTR := HTR.out.below hbw1
      clear hbw hz hbest hbw1
      by_cases hml : m = ts.length
      · have e1 : (m : Int) = (ts.length : Int) := by omega
        have e2 : ((m : Int) == (ts.length : Int)) = true := by simpa using e1
        have hR : Sn.told ts (Lx.runes s).length B = .error (Lib.runeCount s) := by
          rw [← HBEST.out, count_all]
          show Except.error _ = _
          have : Sy.tokAt ts (Lx.runes s).length m = ⟨0, [], 0, (Lx.runes s).length⟩ := by unfold Sy.tokAt; rw [List.getElem?_eq_none (by omega)]; rfl
          rw [this]
        have HRR := Lib.hid hR
        clear hR hTR
        go_wp2_with (first
          | (go_at_call 23; refine (Tryd.utf8_RuneCountInString s _ (by omega)).mono ?_; rintro e w5 ⟨rfl, pos, rfl⟩; have z5 := (heap_alloc_old wr (.stringIter s pos) (Array.getElem?_eq_some_iff.1 HZ.out).1).trans HZ.out; have z6 : (wr.iter s pos).heap[w.heap.size]? = some (.cells (ItC Sy.t0) 55 (0, 0)) := z5)
          | (refine wp_storeIt rfl _ _ rfl w.heap.size Sy.t0 rfl rfl _ _ z6 rfl ?_))
        (try simp only [Exit.inBlock, Exit.then])
        refine bodyPost_ret (resIt3 rfl _ _ _ _ _ _ rfl (setRow_heap _ _ _ _ _ _ z6)) rfl ?_
        exact ParseP.err (m := Lib.runeCount s) HRR.out rfl (upS (upA HBW.out _) _ (by omega) _)
      · have hml2 : m < ts.length := by omega
        obtain ⟨t, ht⟩ : ∃ t, ts[m]? = some t := ⟨ts[m], by simp [hml2]⟩
        have e1 : ¬ (m : Int) = (ts.length : Int) := by omega
        have e2 : ((m : Int) == (ts.length : Int)) = false := by simpa using e1
        have e3 : (0 : Int) ≤ (m : Int) := by omega
        have e4 : (m : Int) < (ts.length : Int) := by omega
        obtain ⟨hgw, _, _, _, x4⟩ := hTR m t ht
        have hR : Sn.told ts (Lx.runes s).length B = .error t.at_ := by
          rw [← HBEST.out]
          show Except.error _ = _
          have : Sy.tokAt ts (Lx.runes s).length m = t := by unfold Sy.tokAt; rw [ht]; rfl
          rw [this]
        have hne : gT ≠ w.heap.size := by
          intro he
          have := HZ.out
          rw [← he] at this
          rw [cell_of_row _ _ _ _ _ _ this] at x4
          have hm4 : ((ItC Sy.t0)[m * 4 + 3]?) = some (.int .i64 (t.at_ : Int)) := x4
          obtain ⟨_, q1, q2, _, _⟩ := hTR m t ht
          rw [cell_of_row _ _ _ _ _ _ this] at q2
          rcases (by omega : m = 0 ∨ m = 1 ∨ m = 2 ∨ 3 ≤ m) with rfl | rfl | rfl | h3
          · cases q2
          · cases q2
          · cases q2
          · rw [Array.getElem?_eq_none (by show 13 ≤ _; omega)] at q2; cases q2
        have hne2 : w.heap.size ≠ gT := fun h => hne h.symm
        have HRR := Lib.hid hR
        clear hR hTR ht
        go_wp2_with fail
        refine wp_region_noPanic ?_
        refine wp_region_held_drew (S := fun w' => w'.cell? ⟨gT, m * 4 + 3, none⟩ = some (.int .i64 (t.at_ : Int))) (by kernel_rfl) ?_ (fun hHeld => ?_)
        · exact x4
        refine wpAnyH_take (i := 0) (oi := _) (v := ?_) rfl (by kernel_rfl) (by kernel_rfl) (by kernel_rfl) (fun _ _ _ h => h) (Or.inl ⟨by kernel_rfl, ?_⟩) (by assumption) ?_
        rotate_left
        · (intro w hSw; (try dsimp only at hSw); go_simp; try (with_reducible rfl))
        (try simp only [List.getElem_toArray, List.getElem_cons_succ, List.getElem_cons_zero, Act.put, List.setIfInBounds_toArray, List.set_cons_zero, List.set_cons_succ])
        refine wpAnyH_take (i := 1) (oi := _) (v := ?_) rfl (by kernel_rfl) (by kernel_rfl) (by kernel_rfl) (fun _ _ _ h => h) (Or.inl ⟨by kernel_rfl, ?_⟩) (by assumption) ?_
        rotate_left
        · (intro w hSw; (try dsimp only at hSw); go_simp; try (with_reducible rfl))
        (try simp only [List.getElem_toArray, List.getElem_cons_succ, List.getElem_cons_zero, Act.put, List.setIfInBounds_toArray, List.set_cons_zero, List.set_cons_succ])
        refine wpAnyH_take (i := 2) (oi := _) (v := ?_) rfl (by kernel_rfl) (by kernel_rfl) (by kernel_rfl) (fun _ _ _ h => h) (Or.inl ⟨by kernel_rfl, ?_⟩) (by assumption) ?_
        rotate_left
        · (intro w hSw; (try dsimp only at hSw); go_simp; try (with_reducible rfl))
        (try simp only [List.getElem_toArray, List.getElem_cons_succ, List.getElem_cons_zero, Act.put, List.setIfInBounds_toArray, List.set_cons_zero, List.set_cons_succ])
        refine wpAnyH_take (i := 3) (oi := _) (v := ?_) rfl (by kernel_rfl) (by kernel_rfl) (by kernel_rfl) (fun _ _ _ h => h) (Or.inl ⟨by kernel_rfl, ?_⟩) (by assumption) ?_
        rotate_left
        · (intro w hSw; (try dsimp only at hSw); go_simp; try (with_reducible rfl))
        (try simp only [List.getElem_toArray, List.getElem_cons_succ, List.getElem_cons_zero, Act.put, List.setIfInBounds_toArray, List.set_cons_zero, List.set_cons_succ])
        refine wpAnyH_take (i := 4) (oi := _) (v := ?_) rfl (by kernel_rfl) (by kernel_rfl) (by kernel_rfl) (fun _ _ _ h => h) (Or.inl ⟨by kernel_rfl, ?_⟩) (by assumption) ?_
        rotate_left
        · (intro w hSw; (try dsimp only at hSw); go_simp; try (with_reducible rfl))
        (try simp only [List.getElem_toArray, List.getElem_cons_succ, List.getElem_cons_zero, Act.put, List.setIfInBounds_toArray, List.set_cons_zero, List.set_cons_succ])
        refine wpAnyH_take (i := 5) (oi := _) (v := ?_) rfl (by kernel_rfl) (by kernel_rfl) (by kernel_rfl) (fun _ _ _ h => h) (Or.inl ⟨by kernel_rfl, ?_⟩) (by assumption) ?_
        rotate_left
        · (intro w hSw; (try dsimp only at hSw); go_simp; try (with_reducible rfl))
        (try simp only [List.getElem_toArray, List.getElem_cons_succ, List.getElem_cons_zero, Act.put, List.setIfInBounds_toArray, List.set_cons_zero, List.set_cons_succ])
        refine wpAnyH_ready (rs := [6]) (by kernel_rfl) (by simp) ?_
        refine AllReadyH.cons (o := _) rfl (fun K hK => ?_) AllReadyH.nil
        refine step_storeIt rfl _ _ rfl w.heap.size Sy.t0 rfl rfl _ _ (show wr.drew.heap[w.heap.size]? = _ from HZ.out) rfl ?_
        first | refine hK.out _ _ ?_ (fun hHeld => ?_) | (go_wp2_with fail; refine hK.out _ _ ?_ (fun hHeld => ?_))
        · exact (cell_setRow_other _ _ _ _ hne).trans x4
        clear hK K
        (try simp only [List.getElem_toArray, List.getElem_cons_succ, List.getElem_cons_zero, Act.put, List.setIfInBounds_toArray, List.set_cons_zero, List.set_cons_succ])
        refine wpAnyH_take (i := 7) (oi := _) (v := ?_) rfl (by kernel_rfl) (by kernel_rfl) (by kernel_rfl) (fun _ _ _ h => h) (Or.inl ⟨by kernel_rfl, ?_⟩) (by assumption) ?_
        rotate_left
        · (intro w hSw; (try dsimp only at hSw); go_simp; try (with_reducible rfl))
        (try simp only [List.getElem_toArray, List.getElem_cons_succ, List.getElem_cons_zero, Act.put, List.setIfInBounds_toArray, List.set_cons_zero, List.set_cons_succ])
        refine wpAnyH_take (i := 8) (oi := _) (v := ?_) rfl (by kernel_rfl) (by kernel_rfl) (by kernel_rfl) (fun _ _ _ h => h) (Or.inl ⟨by kernel_rfl, ?_⟩) (by assumption) ?_
        rotate_left
        · (intro w hSw; (try dsimp only at hSw); go_simp; try (with_reducible rfl))
        (try simp only [List.getElem_toArray, List.getElem_cons_succ, List.getElem_cons_zero, Act.put, List.setIfInBounds_toArray, List.set_cons_zero, List.set_cons_succ])
        refine wpAnyH_done (by kernel_rfl) ?_ _
        refine NoPanic.normal ?_
        (try go_simp)
        go_wp2_with fail
        (try simp only [Exit.inBlock, Exit.then])
        refine bodyPost_ret (resIt3 rfl _ _ _ _ _ _ rfl (setRow_heap _ _ _ _ _ _ (show wr.drew.heap[w.heap.size]? = _ from HZ.out))) rfl ?_
        exact ParseP.err (m := t.at_) HRR.out rfl (upS (upD HBW.out 1) _ (by omega) _)
theorem parse_any (s : ByteArray) (w : World) (T : Sn.Tab w) (hs : s.size ≤ 1000000) : Calls Tryd.prog 12 #[.string s] w (ParseP w (Sy.parse (Lx.runes s))) := by
  unfold Sy.parse
  cases hl : Lx.lxA 0 (Lx.runes s) with
  | error a => exact parse_err s w hs a hl
  | ok ts =>
    have L := Lx.laid_of _ 0 (Lx.runes s) ts (Nat.le_refl _) hl
    have hlen := L.len_le
    have hrl := Lx.runes_len s
    by_cases hne : ts = []
    · subst hne
      exact parse_nil s w hs hl
    · have h := parse_some s w T hs ts hne hl L.good (by omega)
      have e : Sn.parseT ts (Lx.runes s).length = Sn.told ts (Lx.runes s).length (Sn.best ts Sn.forms 0) := by
        unfold Sn.parseT
        rw [if_neg hne]
        cases Sn.best ts Sn.forms 0 <;> rfl
      show Calls _ _ _ _ (ParseP w (Sy.parseT ts (Lx.runes s).length))
      rw [← Sn.parse_same L.good, e]
      exact h
end
end Go.Proofs.YtmghklokbmdenaaDoor
