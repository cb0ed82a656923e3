/- The reader of a line behind a pointer; contracts of auguryref4's next and fail. -/
import Derived.Test.YtcpbbkpfickfiaaDoorSyRef1
import Derived.Test.YtcpbbkpfickfiaaDoorLxSt
import Derived.Test.YtcpbbkpfickfiaaDoorLxTR
import Derived.Deep.RegionHeld3
set_option linter.unusedVariables false
set_option linter.unusedSimpArgs false
namespace Go.Proofs.YtcpbbkpfickfiaaDoor
open Go.RowKit
/-- all blocks but g are as they were -/
structure Fg (g : Nat) (w w' : World) : Prop where
  os : w'.os = w.os
  tape : w'.tape = w.tape
  output : w'.output = w.output
  size : w.heap.size ≤ w'.heap.size
  block : ∀ k, k < w.heap.size → k ≠ g → w'.heap[k]? = w.heap[k]?
theorem Fg.refl (g : Nat) (w : World) : Fg g w w := ⟨rfl, rfl, rfl, Nat.le_refl _, fun _ _ _ => rfl⟩
theorem Fg.of_below {g : Nat} {w w' : World} (h : Below w.heap.size w w') : Fg g w w' := ⟨h.os, h.tape, h.output, h.size, fun k hk _ => h.block k hk⟩
theorem Fg.trans {g : Nat} {a b c : World} (h : Fg g a b) (k : Fg g b c) : Fg g a c :=
  ⟨k.os.trans h.os, k.tape.trans h.tape, k.output.trans h.output, Nat.le_trans h.size k.size, fun i hi hn => (k.block i (Nat.lt_of_lt_of_le hi h.size) hn).trans (h.block i hi hn)⟩
theorem Fg.up {g : Nat} {a b c : World} (h : Fg g a b) (k : Below b.heap.size b c) : Fg g a c := h.trans (Fg.of_below k)
theorem Fg.drew {g : Nat} {a b : World} (h : Fg g a b) : Fg g a b.drew := ⟨h.os, h.tape, h.output, h.size, h.block⟩
theorem Fg.setRow {g : Nat} {a b : World} (h : Fg g a b) (k : Nat) (hk : k = g ∨ a.heap.size ≤ k) (cs : Array Value) : Fg g a (b.setRow k cs) :=
  ⟨h.os, h.tape, h.output, by simpa using h.size, fun i hi hn => (setRow_other _ _ _ _ (by rcases hk with rfl | hk <;> omega)).trans (h.block i hi hn)⟩
theorem Fg.setRow' {g : Nat} {a b : World} (h : Fg g a b) (cs : Array Value) : Fg g a (b.setRow g cs) := h.setRow g (.inl rfl) cs
abbrev TV (t : Lx.Tk) : Value := .agg #[.int .i64 t.kind, .string (strOfNums t.text), .int .i64 t.n, .int .i64 (t.at_ : Int)]
/-- block g is a reader of the signs ts of a line of so many runes, as far as s says -/
structure LnS (w : World) (g gT : Nat) (ts : List Lx.Tk) (cap long : Nat) (s : Sy.St) : Prop where
  row : w.heap[g]? = some (.cells #[.slice (some ⟨gT, 0, none⟩) ts.length cap, .int .i64 (s.k : Int), .int .i64 (long : Int), .int .i64 s.bad] 67 (0, 0))
  toks : TR w gT ts
  far : g ≠ gT
  gTlt : gT < w.heap.size
  cap_ : ts.length ≤ cap
  len : ts.length ≤ 1000000
  kle : s.k ≤ ts.length
  asc : ∀ t ∈ ts, ∀ x ∈ t.text, 0 ≤ x ∧ x < 256
theorem LnS.glt {w : World} {g gT cap long : Nat} {ts : List Lx.Tk} {s : Sy.St} (h : LnS w g gT ts cap long s) : g < w.heap.size := (Array.getElem?_eq_some_iff.1 h.row).1
theorem LnS.up {w w' : World} {g gT cap long : Nat} {ts : List Lx.Tk} {s : Sy.St} (h : LnS w g gT ts cap long s) (hb : Below w.heap.size w w') : LnS w' g gT ts cap long s :=
  ⟨(hb.block g h.glt).trans h.row, h.toks.below hb, h.far, Nat.lt_of_lt_of_le h.gTlt hb.size, h.cap_, h.len, h.kle, h.asc⟩
theorem TR.fg {w w' : World} {g gT : Nat} {ts : List Lx.Tk} (h : TR w gT ts) (hf : Fg g w w') (hne : g ≠ gT) : TR w' gT ts := fun j t ht => by
  obtain ⟨h0, h1, h2, h3, h4⟩ := h j t ht
  have hb := hf.block gT h0 (Ne.symm hne)
  have hc : ∀ k, w'.cell? ⟨gT, k, none⟩ = w.cell? ⟨gT, k, none⟩ := fun k => World.cell?_of_block hb
  exact ⟨Nat.lt_of_lt_of_le h0 hf.size, (hc _).trans h1, (hc _).trans h2, (hc _).trans h3, (hc _).trans h4⟩
/-- what next hands back, and what it leaves -/
def NextP (w : World) (g gT : Nat) (ts : List Lx.Tk) (cap long : Nat) (s s' : Sy.St) (v : Value) (e : Ending) (w' : World) : Prop :=
  e = .returned v ∧ LnS w' g gT ts cap long s' ∧ Fg g w w'
theorem infoLn : (Tryd.prog.info? 67).map (·.size) = some 4 := by kernel_rfl
set_option maxRecDepth 100000 in
set_option maxHeartbeats 4000000 in
theorem next_any (w : World) (g gT : Nat) (ts : List Lx.Tk) (cap long : Nat) (s : Sy.St) (h : LnS w g gT ts cap long s) :
    Calls Tryd.prog 36 #[.pointer (some ⟨g, 0, none⟩)] w (NextP w g gT ts cap long s (Sy.step ts s) (TV (Sy.tokAt ts long s.k))) := by
  have hglt := h.glt
  have hr := h.row
  have HR : ∀ o, (w.alloc o).heap[g]? = _ := fun o => (heap_alloc_old _ _ hglt).trans hr
  have c0 : ∀ o, (w.alloc o).drew.cell? ⟨g, 0, none⟩ = some (.slice (some ⟨gT, 0, none⟩) ts.length cap) := fun o => by
    show (w.alloc o).cell? _ = _
    rw [cell_of_row _ _ _ _ _ _ (HR o)]; rfl
  have c1 : ∀ o, (w.alloc o).drew.cell? ⟨g, 1, none⟩ = some (.int .i64 (s.k : Int)) := fun o => by
    show (w.alloc o).cell? _ = _
    rw [cell_of_row _ _ _ _ _ _ (HR o)]; rfl
  have c2 : ∀ o, (w.alloc o).drew.cell? ⟨g, 2, none⟩ = some (.int .i64 (long : Int)) := fun o => by
    show (w.alloc o).cell? _ = _
    rw [cell_of_row _ _ _ _ _ _ (HR o)]; rfl
  have z1 : ∀ o, (w.alloc o).drew.frozen? ⟨g, 1, none⟩ = false := fun o => frozen_of_row (w.alloc o) g 1 _ _ (HR o)
  by_cases hk : s.k < ts.length
  · have k1 : (s.k : Int) < (ts.length : Int) := by omega
    obtain ⟨t, ht⟩ : ∃ t, ts[s.k]? = some t := ⟨ts[s.k], by simp [hk]⟩
    rw [Sy.tokAt_of ht]
    have hstep : Sy.step ts s = ⟨s.k + 1, s.bad⟩ := by unfold Sy.step; rw [if_pos hk]
    rw [hstep]
    go_enter Tryd.func36, Tryd.ntmps36
    go_wp2_with fail
    refine wp_region_noPanic ?_
    refine wp_region_held_drew (S := fun w' => w'.cell? ⟨g, 0, none⟩ = some (.slice (some ⟨gT, 0, none⟩) ts.length cap) ∧ w'.cell? ⟨g, 1, none⟩ = some (.int .i64 (s.k : Int))) (by kernel_rfl) ?_ (fun hHeld => ?_)
    · exact ⟨c0 _, c1 _⟩
    refine wpAnyH_take (i := 0) (oi := _) (v := ?_) rfl (by kernel_rfl) (by kernel_rfl) (by kernel_rfl) (fun _ _ _ h => h) (Or.inl ⟨by kernel_rfl, ?_⟩) (by assumption) ?_
    rotate_left
    · (intro w hSw; (try dsimp only at hSw); go_simp; try (with_reducible rfl))
    (try simp only [List.getElem_toArray, List.getElem_cons_succ, List.getElem_cons_zero, Act.put, List.setIfInBounds_toArray, List.set_cons_zero, List.set_cons_succ])
    refine wpAnyH_take (i := 1) (oi := _) (v := ?_) rfl (by kernel_rfl) (by kernel_rfl) (by kernel_rfl) (fun _ _ _ h => h) (Or.inl ⟨by kernel_rfl, ?_⟩) (by assumption) ?_
    rotate_left
    · (intro w hSw; (try dsimp only at hSw); go_simp; try (with_reducible rfl))
    (try simp only [List.getElem_toArray, List.getElem_cons_succ, List.getElem_cons_zero, Act.put, List.setIfInBounds_toArray, List.set_cons_zero, List.set_cons_succ])
    refine wpAnyH_take (i := 2) (oi := _) (v := ?_) rfl (by kernel_rfl) (by kernel_rfl) (by kernel_rfl) (fun _ _ _ h => h) (Or.inl ⟨by kernel_rfl, ?_⟩) (by assumption) ?_
    rotate_left
    · (intro w hSw; (try dsimp only at hSw); go_simp; try (with_reducible rfl))
    (try simp only [List.getElem_toArray, List.getElem_cons_succ, List.getElem_cons_zero, Act.put, List.setIfInBounds_toArray, List.set_cons_zero, List.set_cons_succ])
    refine wpAnyH_take (i := 3) (oi := _) (v := ?_) rfl (by kernel_rfl) (by kernel_rfl) (by kernel_rfl) (fun _ _ _ h => h) (Or.inl ⟨by kernel_rfl, ?_⟩) (by assumption) ?_
    rotate_left
    · (intro w hSw; (try dsimp only at hSw); go_simp; try (with_reducible rfl))
    (try simp only [List.getElem_toArray, List.getElem_cons_succ, List.getElem_cons_zero, Act.put, List.setIfInBounds_toArray, List.set_cons_zero, List.set_cons_succ])
    refine wpAnyH_take (i := 4) (oi := _) (v := ?_) rfl (by kernel_rfl) (by kernel_rfl) (by kernel_rfl) (fun _ _ _ h => h) (Or.inl ⟨by kernel_rfl, ?_⟩) (by assumption) ?_
    rotate_left
    · (intro w hSw; (try dsimp only at hSw); go_simp; try (with_reducible rfl))
    (try simp only [List.getElem_toArray, List.getElem_cons_succ, List.getElem_cons_zero, Act.put, List.setIfInBounds_toArray, List.set_cons_zero, List.set_cons_succ])
    refine wpAnyH_take (i := 5) (oi := _) (v := ?_) rfl (by kernel_rfl) (by kernel_rfl) (by kernel_rfl) (fun _ _ _ h => h) (Or.inl ⟨by kernel_rfl, ?_⟩) (by assumption) ?_
    rotate_left
    · (intro w hSw; (try dsimp only at hSw); go_simp; try (with_reducible rfl))
    (try simp only [List.getElem_toArray, List.getElem_cons_succ, List.getElem_cons_zero, Act.put, List.setIfInBounds_toArray, List.set_cons_zero, List.set_cons_succ])
    refine wpAnyH_take (i := 6) (oi := _) (v := ?_) rfl (by kernel_rfl) (by kernel_rfl) (by kernel_rfl) (fun _ _ _ h => h) (Or.inl ⟨by kernel_rfl, ?_⟩) (by assumption) ?_
    rotate_left
    · (intro w hSw; (try dsimp only at hSw); go_simp; try (with_reducible rfl))
    (try simp only [List.getElem_toArray, List.getElem_cons_succ, List.getElem_cons_zero, Act.put, List.setIfInBounds_toArray, List.set_cons_zero, List.set_cons_succ])
    refine wpAnyH_take (i := 7) (oi := _) (v := ?_) rfl (by kernel_rfl) (by kernel_rfl) (by kernel_rfl) (fun _ _ _ h => h) (Or.inl ⟨by kernel_rfl, ?_⟩) (by assumption) ?_
    rotate_left
    · (intro w hSw; (try dsimp only at hSw); go_simp; try (with_reducible rfl))
    (try simp only [List.getElem_toArray, List.getElem_cons_succ, List.getElem_cons_zero, Act.put, List.setIfInBounds_toArray, List.set_cons_zero, List.set_cons_succ])
    refine wpAnyH_take (i := 8) (oi := _) (v := ?_) rfl (by kernel_rfl) (by kernel_rfl) (by kernel_rfl) (fun _ _ _ h => h) (Or.inl ⟨by kernel_rfl, ?_⟩) (by assumption) ?_
    rotate_left
    · (intro w hSw; (try dsimp only at hSw); go_simp; try (with_reducible rfl))
    (try simp only [List.getElem_toArray, List.getElem_cons_succ, List.getElem_cons_zero, Act.put, List.setIfInBounds_toArray, List.set_cons_zero, List.set_cons_succ])
    refine wpAnyH_take (i := 9) (oi := _) (v := ?_) rfl (by kernel_rfl) (by kernel_rfl) (by kernel_rfl) (fun _ _ _ h => h) (Or.inl ⟨by kernel_rfl, ?_⟩) (by assumption) ?_
    rotate_left
    · (intro w hSw; (try dsimp only at hSw); go_simp; try (with_reducible rfl))
    (try simp only [List.getElem_toArray, List.getElem_cons_succ, List.getElem_cons_zero, Act.put, List.setIfInBounds_toArray, List.set_cons_zero, List.set_cons_succ])
    refine wpAnyH_done (by kernel_rfl) ?_ _
    refine NoPanic.normal ?_
    (try go_simp)
    have hlen := h.len
    have hk6 : s.k + 1 ≤ 1000000 := by omega
    clear hHeld
    go_wp2_with fail
    have hW1 := heap_setCell_same w g 1 _ _ (.int .i64 ((s.k : Int) + 1)) hr
    simp only [List.setIfInBounds_toArray, List.set_cons_zero, List.set_cons_succ] at hW1
    have hfg : Fg g w (w.setCell ⟨g, 1, none⟩ (.int .i64 ((s.k : Int) + 1))) := by
      rw [setCell_eq_setRow _ _ _ _ _ _ _ hr]
      exact (Fg.refl g w).setRow' _
    have hT1 := h.toks.fg hfg h.far
    have hsz1 : (w.setCell ⟨g, 1, none⟩ (.int .i64 ((s.k : Int) + 1))).heap.size = w.heap.size := by simp
    generalize w.setCell ⟨g, 1, none⟩ (.int .i64 ((s.k : Int) + 1)) = W1 at *
    rw [← hsz1] at hglt
    have HR1 : ∀ o, (W1.alloc o).heap[g]? = _ := fun o => (heap_alloc_old _ _ hglt).trans hW1
    have hnew : ∀ o, (W1.alloc o).heap[w.heap.size]? = some o := fun o => by rw [← hsz1]; exact heap_alloc_new _ _
    obtain ⟨_, x1, x2, x3, x4⟩ := (hT1.below (upA (up0 W1) (.cells #[.int .i64 0, .string ⟨#[]⟩, .int .i64 0, .int .i64 0] 58))) s.k t ht
    have d0 : (W1.alloc (.cells #[.int .i64 0, .string ⟨#[]⟩, .int .i64 0, .int .i64 0] 58)).drew.drew.cell? ⟨g, 0, none⟩ = some (.slice (some ⟨gT, 0, none⟩) ts.length cap) := by
      show (W1.alloc _).cell? _ = _
      rw [cell_of_row _ _ _ _ _ _ (HR1 _)]; rfl
    have d1 : (W1.alloc (.cells #[.int .i64 0, .string ⟨#[]⟩, .int .i64 0, .int .i64 0] 58)).drew.drew.cell? ⟨g, 1, none⟩ = some (.int .i64 ((s.k : Int) + 1)) := by
      show (W1.alloc _).cell? _ = _
      rw [cell_of_row _ _ _ _ _ _ (HR1 _)]; rfl
    have hgn : g ≠ w.heap.size := by omega
    have hgT : gT ≠ w.heap.size := by have := h.gTlt; omega
    have kw1 : (s.k : Int) + 1 - 1 = (s.k : Int) := by omega
    have kw2 : IntKind.i64.wrap ((s.k : Int) + 1 - 1) = (s.k : Int) := by rw [IntKind.wrap_i64]; omega
    have kw3 : IntKind.i64.wrap (s.k : Int) = (s.k : Int) := by rw [IntKind.wrap_i64]; omega
    have k0 : (0 : Int) ≤ (s.k : Int) := by omega
    clear c0 c1 c2 z1 hr
    refine wp_region_noPanic ?_
    refine wp_region_held_drew (S := fun w' => w'.cell? ⟨g, 0, none⟩ = some (.slice (some ⟨gT, 0, none⟩) ts.length cap) ∧ w'.cell? ⟨g, 1, none⟩ = some (.int .i64 ((s.k : Int) + 1)) ∧ w'.cell? ⟨gT, s.k * 4, none⟩ = some (.int .i64 t.kind) ∧ w'.cell? ⟨gT, s.k * 4 + 1, none⟩ = some (.string (strOfNums t.text)) ∧ w'.cell? ⟨gT, s.k * 4 + 2, none⟩ = some (.int .i64 t.n) ∧ w'.cell? ⟨gT, s.k * 4 + 3, none⟩ = some (.int .i64 (t.at_ : Int))) (by kernel_rfl) ?_ (fun hHeld => ?_)
    · exact ⟨d0, d1, x1, x2, x3, x4⟩
    refine wpAnyH_take (i := 0) (oi := _) (v := ?_) rfl (by kernel_rfl) (by kernel_rfl) (by kernel_rfl) (fun _ _ _ h => h) (Or.inl ⟨by kernel_rfl, ?_⟩) (by assumption) ?_
    rotate_left
    · (intro w hSw; (try dsimp only at hSw); go_simp; try (with_reducible rfl))
    (try simp only [List.getElem_toArray, List.getElem_cons_succ, List.getElem_cons_zero, Act.put, List.setIfInBounds_toArray, List.set_cons_zero, List.set_cons_succ])
    refine wpAnyH_take (i := 1) (oi := _) (v := ?_) rfl (by kernel_rfl) (by kernel_rfl) (by kernel_rfl) (fun _ _ _ h => h) (Or.inl ⟨by kernel_rfl, ?_⟩) (by assumption) ?_
    rotate_left
    · (intro w hSw; (try dsimp only at hSw); go_simp; try (with_reducible rfl))
    (try simp only [List.getElem_toArray, List.getElem_cons_succ, List.getElem_cons_zero, Act.put, List.setIfInBounds_toArray, List.set_cons_zero, List.set_cons_succ])
    refine wpAnyH_take (i := 2) (oi := _) (v := ?_) rfl (by kernel_rfl) (by kernel_rfl) (by kernel_rfl) (fun _ _ _ h => h) (Or.inl ⟨by kernel_rfl, ?_⟩) (by assumption) ?_
    rotate_left
    · (intro w hSw; (try dsimp only at hSw); go_simp; try (with_reducible rfl))
    (try simp only [List.getElem_toArray, List.getElem_cons_succ, List.getElem_cons_zero, Act.put, List.setIfInBounds_toArray, List.set_cons_zero, List.set_cons_succ])
    refine wpAnyH_take (i := 3) (oi := _) (v := ?_) rfl (by kernel_rfl) (by kernel_rfl) (by kernel_rfl) (fun _ _ _ h => h) (Or.inl ⟨by kernel_rfl, ?_⟩) (by assumption) ?_
    rotate_left
    · (intro w hSw; (try dsimp only at hSw); go_simp; try (with_reducible rfl))
    (try simp only [List.getElem_toArray, List.getElem_cons_succ, List.getElem_cons_zero, Act.put, List.setIfInBounds_toArray, List.set_cons_zero, List.set_cons_succ])
    refine wpAnyH_take (i := 4) (oi := _) (v := ?_) rfl (by kernel_rfl) (by kernel_rfl) (by kernel_rfl) (fun _ _ _ h => h) (Or.inl ⟨by kernel_rfl, ?_⟩) (by assumption) ?_
    rotate_left
    · (intro w hSw; (try dsimp only at hSw); go_simp; try (with_reducible rfl))
    (try simp only [List.getElem_toArray, List.getElem_cons_succ, List.getElem_cons_zero, Act.put, List.setIfInBounds_toArray, List.set_cons_zero, List.set_cons_succ])
    refine wpAnyH_take (i := 5) (oi := _) (v := ?_) rfl (by kernel_rfl) (by kernel_rfl) (by kernel_rfl) (fun _ _ _ h => h) (Or.inl ⟨by kernel_rfl, ?_⟩) (by assumption) ?_
    rotate_left
    · (intro w hSw; (try dsimp only at hSw); go_simp; try (with_reducible rfl))
    (try simp only [List.getElem_toArray, List.getElem_cons_succ, List.getElem_cons_zero, Act.put, List.setIfInBounds_toArray, List.set_cons_zero, List.set_cons_succ])
    refine wpAnyH_take (i := 6) (oi := _) (v := ?_) rfl (by kernel_rfl) (by kernel_rfl) (by kernel_rfl) (fun _ _ _ h => h) (Or.inl ⟨by kernel_rfl, ?_⟩) (by assumption) ?_
    rotate_left
    · (intro w hSw; (try dsimp only at hSw); go_simp; try (with_reducible rfl))
    (try simp only [List.getElem_toArray, List.getElem_cons_succ, List.getElem_cons_zero, Act.put, List.setIfInBounds_toArray, List.set_cons_zero, List.set_cons_succ])
    refine wpAnyH_take (i := 7) (oi := _) (v := ?_) rfl (by kernel_rfl) (by kernel_rfl) (by kernel_rfl) (fun _ _ _ h => h) (Or.inl ⟨by kernel_rfl, ?_⟩) (by assumption) ?_
    rotate_left
    · (intro w hSw; (try dsimp only at hSw); go_simp; try (with_reducible rfl))
    (try simp only [List.getElem_toArray, List.getElem_cons_succ, List.getElem_cons_zero, Act.put, List.setIfInBounds_toArray, List.set_cons_zero, List.set_cons_succ])
    refine wpAnyH_take (i := 8) (oi := _) (v := ?_) rfl (by kernel_rfl) (by kernel_rfl) (by kernel_rfl) (fun _ _ _ h => h) (Or.inl ⟨by kernel_rfl, ?_⟩) (by assumption) ?_
    rotate_left
    · (intro w hSw; (try dsimp only at hSw); go_simp; try (with_reducible rfl))
    (try simp only [List.getElem_toArray, List.getElem_cons_succ, List.getElem_cons_zero, Act.put, List.setIfInBounds_toArray, List.set_cons_zero, List.set_cons_succ])
    refine wpAnyH_take (i := 9) (oi := _) (v := ?_) rfl (by kernel_rfl) (by kernel_rfl) (by kernel_rfl) (fun _ _ _ h => h) (Or.inl ⟨by kernel_rfl, ?_⟩) (by assumption) ?_
    rotate_left
    · (intro w hSw; (try dsimp only at hSw); go_simp; try (with_reducible rfl))
    (try simp only [List.getElem_toArray, List.getElem_cons_succ, List.getElem_cons_zero, Act.put, List.setIfInBounds_toArray, List.set_cons_zero, List.set_cons_succ])
    refine wpAnyH_take (i := 10) (oi := _) (v := ?_) rfl (by kernel_rfl) (by kernel_rfl) (by kernel_rfl) (fun _ _ _ h => h) (Or.inl ⟨by kernel_rfl, ?_⟩) (by assumption) ?_
    rotate_left
    · (intro w hSw; (try dsimp only at hSw); go_simp; try (with_reducible rfl))
    (try simp only [List.getElem_toArray, List.getElem_cons_succ, List.getElem_cons_zero, Act.put, List.setIfInBounds_toArray, List.set_cons_zero, List.set_cons_succ])
    refine wpAnyH_ready (rs := [11]) (by kernel_rfl) (by simp) ?_
    refine AllReadyH.cons (o := _) rfl (fun K hK => ?_) AllReadyH.nil
    refine step_storeT rfl _ _ rfl w.heap.size _ _ _ _ rfl rfl _ _ _ _ _ (hnew _) rfl rfl rfl rfl ?_
    first | refine hK.out _ _ ?_ (fun hHeld => ?_) | (go_wp2_with fail; refine hK.out _ _ ?_ (fun hHeld => ?_))
    · exact ⟨(cell_setRow_other _ _ _ _ hgn).trans d0, (cell_setRow_other _ _ _ _ hgn).trans d1, (cell_setRow_other _ _ _ _ hgT).trans x1, (cell_setRow_other _ _ _ _ hgT).trans x2, (cell_setRow_other _ _ _ _ hgT).trans x3, (cell_setRow_other _ _ _ _ hgT).trans x4⟩
    clear hK K
    (try simp only [List.getElem_toArray, List.getElem_cons_succ, List.getElem_cons_zero, Act.put, List.setIfInBounds_toArray, List.set_cons_zero, List.set_cons_succ])
    refine wpAnyH_done (by kernel_rfl) ?_ _
    refine NoPanic.normal ?_
    (try go_simp)
    go_wp2_with fail
    (try simp only [Exit.inBlock, Exit.then])
    refine bodyPost_ret (resT rfl _ _ _ _ _ _ _ _ _ rfl (setRow_heap _ _ _ _ _ _ (hnew (.cells #[.int .i64 0, .string ⟨#[]⟩, .int .i64 0, .int .i64 0] 58)))) rfl ?_
    have hF : Fg g w (((W1.alloc (.cells #[.int .i64 0, .string ⟨#[]⟩, .int .i64 0, .int .i64 0] 58)).drew.drew).setRow w.heap.size #[.int .i64 t.kind, .string (strOfNums t.text), .int .i64 t.n, .int .i64 (t.at_ : Int)]) :=
      ((hfg.up (upA (up0 W1) _)).drew.drew).setRow w.heap.size (.inr (Nat.le_refl _)) _
    refine ⟨rfl, ⟨(setRow_other _ _ _ _ hgn).trans (HR1 _), h.toks.fg hF h.far, h.far, Nat.lt_of_lt_of_le h.gTlt hF.size, h.cap_, h.len, hk, h.asc⟩, hF⟩
  · have k1 : ¬ (s.k : Int) < (ts.length : Int) := by omega
    have htk : Sy.tokAt ts long s.k = ⟨0, [], 0, long⟩ := by unfold Sy.tokAt; rw [List.getElem?_eq_none (by omega)]; rfl
    have hstep : Sy.step ts s = s := by unfold Sy.step; rw [if_neg hk]
    rw [htk, hstep]
    go_enter Tryd.func36, Tryd.ntmps36
    go_wp2_with fail
    refine wp_region_noPanic ?_
    refine wp_region_held_drew (S := fun w' => w'.cell? ⟨g, 0, none⟩ = some (.slice (some ⟨gT, 0, none⟩) ts.length cap) ∧ w'.cell? ⟨g, 1, none⟩ = some (.int .i64 (s.k : Int))) (by kernel_rfl) ?_ (fun hHeld => ?_)
    · exact ⟨c0 _, c1 _⟩
    refine wpAnyH_take (i := 0) (oi := _) (v := ?_) rfl (by kernel_rfl) (by kernel_rfl) (by kernel_rfl) (fun _ _ _ h => h) (Or.inl ⟨by kernel_rfl, ?_⟩) (by assumption) ?_
    rotate_left
    · (intro w hSw; (try dsimp only at hSw); go_simp; try (with_reducible rfl))
    (try simp only [List.getElem_toArray, List.getElem_cons_succ, List.getElem_cons_zero, Act.put, List.setIfInBounds_toArray, List.set_cons_zero, List.set_cons_succ])
    refine wpAnyH_take (i := 1) (oi := _) (v := ?_) rfl (by kernel_rfl) (by kernel_rfl) (by kernel_rfl) (fun _ _ _ h => h) (Or.inl ⟨by kernel_rfl, ?_⟩) (by assumption) ?_
    rotate_left
    · (intro w hSw; (try dsimp only at hSw); go_simp; try (with_reducible rfl))
    (try simp only [List.getElem_toArray, List.getElem_cons_succ, List.getElem_cons_zero, Act.put, List.setIfInBounds_toArray, List.set_cons_zero, List.set_cons_succ])
    refine wpAnyH_take (i := 2) (oi := _) (v := ?_) rfl (by kernel_rfl) (by kernel_rfl) (by kernel_rfl) (fun _ _ _ h => h) (Or.inl ⟨by kernel_rfl, ?_⟩) (by assumption) ?_
    rotate_left
    · (intro w hSw; (try dsimp only at hSw); go_simp; try (with_reducible rfl))
    (try simp only [List.getElem_toArray, List.getElem_cons_succ, List.getElem_cons_zero, Act.put, List.setIfInBounds_toArray, List.set_cons_zero, List.set_cons_succ])
    refine wpAnyH_take (i := 3) (oi := _) (v := ?_) rfl (by kernel_rfl) (by kernel_rfl) (by kernel_rfl) (fun _ _ _ h => h) (Or.inl ⟨by kernel_rfl, ?_⟩) (by assumption) ?_
    rotate_left
    · (intro w hSw; (try dsimp only at hSw); go_simp; try (with_reducible rfl))
    (try simp only [List.getElem_toArray, List.getElem_cons_succ, List.getElem_cons_zero, Act.put, List.setIfInBounds_toArray, List.set_cons_zero, List.set_cons_succ])
    refine wpAnyH_take (i := 4) (oi := _) (v := ?_) rfl (by kernel_rfl) (by kernel_rfl) (by kernel_rfl) (fun _ _ _ h => h) (Or.inl ⟨by kernel_rfl, ?_⟩) (by assumption) ?_
    rotate_left
    · (intro w hSw; (try dsimp only at hSw); go_simp; try (with_reducible rfl))
    (try simp only [List.getElem_toArray, List.getElem_cons_succ, List.getElem_cons_zero, Act.put, List.setIfInBounds_toArray, List.set_cons_zero, List.set_cons_succ])
    refine wpAnyH_take (i := 5) (oi := _) (v := ?_) rfl (by kernel_rfl) (by kernel_rfl) (by kernel_rfl) (fun _ _ _ h => h) (Or.inl ⟨by kernel_rfl, ?_⟩) (by assumption) ?_
    rotate_left
    · (intro w hSw; (try dsimp only at hSw); go_simp; try (with_reducible rfl))
    (try simp only [List.getElem_toArray, List.getElem_cons_succ, List.getElem_cons_zero, Act.put, List.setIfInBounds_toArray, List.set_cons_zero, List.set_cons_succ])
    refine wpAnyH_take (i := 6) (oi := _) (v := ?_) rfl (by kernel_rfl) (by kernel_rfl) (by kernel_rfl) (fun _ _ _ h => h) (Or.inl ⟨by kernel_rfl, ?_⟩) (by assumption) ?_
    rotate_left
    · (intro w hSw; (try dsimp only at hSw); go_simp; try (with_reducible rfl))
    (try simp only [List.getElem_toArray, List.getElem_cons_succ, List.getElem_cons_zero, Act.put, List.setIfInBounds_toArray, List.set_cons_zero, List.set_cons_succ])
    refine wpAnyH_take (i := 7) (oi := _) (v := ?_) rfl (by kernel_rfl) (by kernel_rfl) (by kernel_rfl) (fun _ _ _ h => h) (Or.inl ⟨by kernel_rfl, ?_⟩) (by assumption) ?_
    rotate_left
    · (intro w hSw; (try dsimp only at hSw); go_simp; try (with_reducible rfl))
    (try simp only [List.getElem_toArray, List.getElem_cons_succ, List.getElem_cons_zero, Act.put, List.setIfInBounds_toArray, List.set_cons_zero, List.set_cons_succ])
    refine wpAnyH_take (i := 8) (oi := _) (v := ?_) rfl (by kernel_rfl) (by kernel_rfl) (by kernel_rfl) (fun _ _ _ h => h) (Or.inl ⟨by kernel_rfl, ?_⟩) (by assumption) ?_
    rotate_left
    · (intro w hSw; (try dsimp only at hSw); go_simp; try (with_reducible rfl))
    (try simp only [List.getElem_toArray, List.getElem_cons_succ, List.getElem_cons_zero, Act.put, List.setIfInBounds_toArray, List.set_cons_zero, List.set_cons_succ])
    refine wpAnyH_take (i := 9) (oi := _) (v := ?_) rfl (by kernel_rfl) (by kernel_rfl) (by kernel_rfl) (fun _ _ _ h => h) (Or.inl ⟨by kernel_rfl, ?_⟩) (by assumption) ?_
    rotate_left
    · (intro w hSw; (try dsimp only at hSw); go_simp; try (with_reducible rfl))
    (try simp only [List.getElem_toArray, List.getElem_cons_succ, List.getElem_cons_zero, Act.put, List.setIfInBounds_toArray, List.set_cons_zero, List.set_cons_succ])
    refine wpAnyH_done (by kernel_rfl) ?_ _
    refine NoPanic.normal ?_
    (try go_simp)
    go_wp2_with fail
    (try simp only [Exit.inBlock, Exit.then])
    refine bodyPost_ret (resT rfl _ _ _ _ _ _ _ _ _ rfl (heap_alloc_new w _)) rfl ?_
    exact ⟨rfl, h.up (upA (up0 w) _).drew, Fg.of_below (upA (up0 w) _).drew⟩
end Go.Proofs.YtcpbbkpfickfiaaDoor
