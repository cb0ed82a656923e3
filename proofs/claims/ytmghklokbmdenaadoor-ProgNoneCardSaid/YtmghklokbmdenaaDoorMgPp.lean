/- Merged: PgPrint, PgText, PgFit, PgAwake. -/
import Derived.Test.YtmghklokbmdenaaDoorMgPe
import Derived.Test.YtmghklokbmdenaaDoorPgParse
set_option linter.unusedVariables false
set_option linter.unusedSimpArgs false
namespace Go.Proofs.YtmghklokbmdenaaDoor
section
open Go.RowKit
theorem Rows3.inp {w : World} {p : Pg.Pr} {vM vL vI : Value} (h : Rows3 w p vM vL vI) : PrIn w p vM vL vI := ⟨own_RowV memC_len (by decide) h.rM, own_RowV labC_len (by decide) h.rL, own_RowV insL_len (by decide) h.rI⟩
/-- what Print wants of a program -/
structure Fit (p : Pg.Pr) : Prop where
  ok : PrOk p
  some_ : 0 < (Pg.bodyG p.labels p.labels 0 p.ins).length
  few : (Pg.bodyG p.labels p.labels 0 p.ins).length ≤ 2000000
  its : ∀ i ∈ Pg.itemsG p, It64 i ∧ Short i ∧ Asc i
  few2 : (Pg.itemsG p).length ≤ 3000000
  short : ∀ t, Pg.sayG p = some t → t.length ≤ 1000000
set_option maxRecDepth 100000 in
set_option maxHeartbeats 32000000 in
theorem pprint_any (p : Pg.Pr) (vM vL vI : Value) (w : World) (T : Sn.Tab w) (h : PrIn w p vM vL vI) (hf : Fit p) :
    Calls Tryd.prog 9 #[.agg (PrA p vM vL vI)] w (PrintP w (Pg.printG p)) := by
  have hw := fun W (h1 : Below w.heap.size w W) => pwrite_any p vM vL vI W (T.below h1) (h.up h1) hf.ok hf.some_ hf.few hf.its hf.few2
  change ∀ W, Below w.heap.size w W → Calls _ _ _ _ (PrintP W (Pg.sayG p)) at hw
  have hshort := hf.short
  have hsame := fun (q : Pg.Pr) (qM qL qI : Value) W (h1 : Below w.heap.size w W) (hq : PrIn W q qM qL qI) (oq : PrOk q) => same_any q p qM qL qI vM vL vI W hq (h.up h1) oq hf.ok
  have HSAME := Lib.hid hsame; have HT := Lib.hid T; have HW := Lib.hid hw
  have hbx : ∀ W, Below (w.alloc (.cells (PrA p vM vL vI) 29)).heap.size (w.alloc (.cells (PrA p vM vL vI) 29)) W → W.heap[w.heap.size]? = some (.cells (PrA p vM vL vI) 29 (0, 0)) := fun W hb => (hb.block w.heap.size (by simp)).trans (heap_alloc_new w _)
  have HBX := Lib.hid hbx
  clear hsame hw h hf T hbx
  unfold Pg.printG
  cases hs : Pg.sayG p with
  | none =>
    have hw := HW.out
    rw [hs] at hw
    have HW := Lib.hid hw
    clear hw hs
    go_enter Tryd.func9, Tryd.ntmps9
    go_wp2_with (go_at_call 17; refine (HW.out _ (upA (up0 w) _)).mono ?_; rintro e w4 ⟨rfl, hb4⟩)
    go_ret2
    exact PrintP.no rfl rfl (upT (upA (up0 w) _) hb4)
  | some t =>
    have hw := HW.out
    rw [hs] at hw
    have htl := hshort t hs
    have hpar := fun W (h1 : Below w.heap.size w W) => parse_prog (Pg.bytes t) (by simpa [Pg.bytes] using htl) W (HT.out.below h1)
    have hstr : Value.string (strOfNums t) = bstr (Pg.bytes t) := rfl
    have HW := Lib.hid hw; have HTL := Lib.hid htl
    simp only
    cases hp : Pg.parse (Pg.bytes t) with
    | error km =>
      obtain ⟨k, m⟩ := km
      rw [hp] at hpar
      have HPAR := Lib.hid hpar
      clear hw hs hpar hp hshort htl
      go_enter Tryd.func9, Tryd.ntmps9
      go_wp2_with first
        | (go_at_call 17; refine (HW.out _ (upA (up0 w) _)).mono ?_; rintro e w4 ⟨rfl, hb4⟩; have HN4 := Lib.hid (upT (upA (up0 w) _) hb4))
        | (go_at_call 6; refine (HPAR.out _ HN4.out).mono ?_; rintro e w5 ⟨hb5, rfl⟩; have HN5 := Lib.hid (upT HN4.out hb5))
      go_ret2
      exact PrintP.no rfl rfl (upA HN5.out _)
    | ok q =>
      have oq := parse_okP (by simpa [Pg.bytes] using htl) hp
      rw [hp] at hpar
      have HPAR := Lib.hid hpar; have HOQ := Lib.hid oq
      clear hw hs hpar hp hshort htl oq
      by_cases hqp : q = p
      · have hsm := fun qM qL qI W h1 h2 => (HSAME.out q qM qL qI W h1 h2 HOQ.out)
        rw [decide_eq_true hqp] at hsm
        have HSM := Lib.hid hsm
        show Calls _ _ _ _ (PrintP w (if q = p then some t else none))
        rw [if_pos hqp]
        clear hsm hqp HSAME
        go_enter Tryd.func9, Tryd.ntmps9
        go_wp2_with first
        | (go_at_call 17; refine (HW.out _ (upA (up0 w) _)).mono ?_; rintro e w4 ⟨rfl, hb4⟩; have HN4 := Lib.hid (upT (upA (up0 w) _) hb4); have HB4 := Lib.hid hb4)
        | (go_at_call 6
           refine (HPAR.out _ HN4.out).mono ?_
           rintro e w5 ⟨hb5, qM, qL, qI, rfl, hrows⟩
           obtain ⟨AM, cM, rfl, _⟩ := id hrows.inp.rM
           obtain ⟨AL, cL, rfl, _⟩ := id hrows.inp.rL
           obtain ⟨AI, cI, rfl, _⟩ := id hrows.inp.rI
           have HN5 := Lib.hid (upT HN4.out hb5)
           have hbx5 := HBX.out _ (upT HB4.out hb5)
           have hlt5 : w.heap.size < w5.heap.size := (Array.getElem?_eq_some_iff.1 hbx5).1
           have z0 : ∀ o, (w5.alloc o).cell? ⟨w.heap.size, 0, none⟩ = some (.int .i64 p.w) := fun o => (World.cell?_alloc_lt _ _ _ hlt5).trans (cell_of_row _ _ 0 _ _ _ hbx5)
           have z1 : ∀ o, (w5.alloc o).cell? ⟨w.heap.size, 1, none⟩ = some (.int .i64 p.win) := fun o => (World.cell?_alloc_lt _ _ _ hlt5).trans (cell_of_row _ _ 1 _ _ _ hbx5)
           have z2 : ∀ o, (w5.alloc o).cell? ⟨w.heap.size, 2, none⟩ = some (.int .i64 p.fuel) := fun o => (World.cell?_alloc_lt _ _ _ hlt5).trans (cell_of_row _ _ 2 _ _ _ hbx5)
           have z3 : ∀ o, (w5.alloc o).cell? ⟨w.heap.size, 3, none⟩ = some (.int .i64 (p.regs.getD 0 0)) := fun o => (World.cell?_alloc_lt _ _ _ hlt5).trans (cell_of_row _ _ 3 _ _ _ hbx5)
           have z4 : ∀ o, (w5.alloc o).cell? ⟨w.heap.size, 4, none⟩ = some (.int .i64 (p.regs.getD 1 0)) := fun o => (World.cell?_alloc_lt _ _ _ hlt5).trans (cell_of_row _ _ 4 _ _ _ hbx5)
           have z5 : ∀ o, (w5.alloc o).cell? ⟨w.heap.size, 5, none⟩ = some (.int .i64 (p.regs.getD 2 0)) := fun o => (World.cell?_alloc_lt _ _ _ hlt5).trans (cell_of_row _ _ 5 _ _ _ hbx5)
           have z6 : ∀ o, (w5.alloc o).cell? ⟨w.heap.size, 6, none⟩ = some (.int .i64 (p.regs.getD 3 0)) := fun o => (World.cell?_alloc_lt _ _ _ hlt5).trans (cell_of_row _ _ 6 _ _ _ hbx5)
           have z7 : ∀ o, (w5.alloc o).cell? ⟨w.heap.size, 7, none⟩ = some (vM) := fun o => (World.cell?_alloc_lt _ _ _ hlt5).trans (cell_of_row _ _ 7 _ _ _ hbx5)
           have z8 : ∀ o, (w5.alloc o).cell? ⟨w.heap.size, 8, none⟩ = some (vL) := fun o => (World.cell?_alloc_lt _ _ _ hlt5).trans (cell_of_row _ _ 8 _ _ _ hbx5)
           have z9 : ∀ o, (w5.alloc o).cell? ⟨w.heap.size, 9, none⟩ = some (vI) := fun o => (World.cell?_alloc_lt _ _ _ hlt5).trans (cell_of_row _ _ 9 _ _ _ hbx5)
           have HROWS := Lib.hid hrows
           clear hbx5 hb5)
        | (go_at_call 18; refine (HSM.out _ _ _ _ (upA HN5.out _) (HROWS.out.inp.up (upA (up0 w5) _))).mono ?_; rintro e w6 ⟨rfl, hb6⟩)
        go_ret2
        exact PrintP.yes rfl rfl (upT (upA HN5.out _) hb6)
      · have hsm := fun qM qL qI W h1 h2 => (HSAME.out q qM qL qI W h1 h2 HOQ.out)
        rw [decide_eq_false hqp] at hsm
        have HSM := Lib.hid hsm
        show Calls _ _ _ _ (PrintP w (if q = p then some t else none))
        rw [if_neg hqp]
        clear hsm hqp HSAME
        go_enter Tryd.func9, Tryd.ntmps9
        go_wp2_with first
        | (go_at_call 17; refine (HW.out _ (upA (up0 w) _)).mono ?_; rintro e w4 ⟨rfl, hb4⟩; have HN4 := Lib.hid (upT (upA (up0 w) _) hb4); have HB4 := Lib.hid hb4)
        | (go_at_call 6
           refine (HPAR.out _ HN4.out).mono ?_
           rintro e w5 ⟨hb5, qM, qL, qI, rfl, hrows⟩
           obtain ⟨AM, cM, rfl, _⟩ := id hrows.inp.rM
           obtain ⟨AL, cL, rfl, _⟩ := id hrows.inp.rL
           obtain ⟨AI, cI, rfl, _⟩ := id hrows.inp.rI
           have HN5 := Lib.hid (upT HN4.out hb5)
           have hbx5 := HBX.out _ (upT HB4.out hb5)
           have hlt5 : w.heap.size < w5.heap.size := (Array.getElem?_eq_some_iff.1 hbx5).1
           have z0 : ∀ o, (w5.alloc o).cell? ⟨w.heap.size, 0, none⟩ = some (.int .i64 p.w) := fun o => (World.cell?_alloc_lt _ _ _ hlt5).trans (cell_of_row _ _ 0 _ _ _ hbx5)
           have z1 : ∀ o, (w5.alloc o).cell? ⟨w.heap.size, 1, none⟩ = some (.int .i64 p.win) := fun o => (World.cell?_alloc_lt _ _ _ hlt5).trans (cell_of_row _ _ 1 _ _ _ hbx5)
           have z2 : ∀ o, (w5.alloc o).cell? ⟨w.heap.size, 2, none⟩ = some (.int .i64 p.fuel) := fun o => (World.cell?_alloc_lt _ _ _ hlt5).trans (cell_of_row _ _ 2 _ _ _ hbx5)
           have z3 : ∀ o, (w5.alloc o).cell? ⟨w.heap.size, 3, none⟩ = some (.int .i64 (p.regs.getD 0 0)) := fun o => (World.cell?_alloc_lt _ _ _ hlt5).trans (cell_of_row _ _ 3 _ _ _ hbx5)
           have z4 : ∀ o, (w5.alloc o).cell? ⟨w.heap.size, 4, none⟩ = some (.int .i64 (p.regs.getD 1 0)) := fun o => (World.cell?_alloc_lt _ _ _ hlt5).trans (cell_of_row _ _ 4 _ _ _ hbx5)
           have z5 : ∀ o, (w5.alloc o).cell? ⟨w.heap.size, 5, none⟩ = some (.int .i64 (p.regs.getD 2 0)) := fun o => (World.cell?_alloc_lt _ _ _ hlt5).trans (cell_of_row _ _ 5 _ _ _ hbx5)
           have z6 : ∀ o, (w5.alloc o).cell? ⟨w.heap.size, 6, none⟩ = some (.int .i64 (p.regs.getD 3 0)) := fun o => (World.cell?_alloc_lt _ _ _ hlt5).trans (cell_of_row _ _ 6 _ _ _ hbx5)
           have z7 : ∀ o, (w5.alloc o).cell? ⟨w.heap.size, 7, none⟩ = some (vM) := fun o => (World.cell?_alloc_lt _ _ _ hlt5).trans (cell_of_row _ _ 7 _ _ _ hbx5)
           have z8 : ∀ o, (w5.alloc o).cell? ⟨w.heap.size, 8, none⟩ = some (vL) := fun o => (World.cell?_alloc_lt _ _ _ hlt5).trans (cell_of_row _ _ 8 _ _ _ hbx5)
           have z9 : ∀ o, (w5.alloc o).cell? ⟨w.heap.size, 9, none⟩ = some (vI) := fun o => (World.cell?_alloc_lt _ _ _ hlt5).trans (cell_of_row _ _ 9 _ _ _ hbx5)
           have HROWS := Lib.hid hrows
           clear hbx5 hb5)
        | (go_at_call 18; refine (HSM.out _ _ _ _ (upA HN5.out _) (HROWS.out.inp.up (upA (up0 w5) _))).mono ?_; rintro e w6 ⟨rfl, hb6⟩)
        go_ret2
        exact PrintP.no rfl rfl (upT (upA HN5.out _) hb6)
set_option maxRecDepth 100000 in
set_option maxHeartbeats 16000000 in
theorem pok_any (p : Pg.Pr) (vM vL vI : Value) (w : World) (T : Sn.Tab w) (h : PrIn w p vM vL vI) (hf : Fit p) :
    Calls Tryd.prog 8 #[.agg (PrA p vM vL vI)] w (RetB (.bool (Pg.printG p).isSome) w) := by
  have hpr := fun W (h1 : Below w.heap.size w W) => pprint_any p vM vL vI W (T.below h1) (h.up h1) hf
  cases hs : Pg.printG p with
  | none =>
    rw [hs] at hpr
    have HP := Lib.hid hpr
    clear hpr h hf T hs
    go_enter Tryd.func8, Tryd.ntmps8
    go_wp2_with (go_at_call 9; refine (HP.out _ (upA (up0 w) _)).mono ?_; rintro e w4 ⟨rfl, hb4⟩)
    go_ret
    exact ⟨rfl, upT (upA (up0 w) _) hb4⟩
  | some t =>
    rw [hs] at hpr
    have HP := Lib.hid hpr
    clear hpr h hf T hs
    go_enter Tryd.func8, Tryd.ntmps8
    go_wp2_with (go_at_call 9; refine (HP.out _ (upA (up0 w) _)).mono ?_; rintro e w4 ⟨rfl, hb4⟩)
    go_ret
    exact ⟨rfl, upT (upA (up0 w) _) hb4⟩
end
end Go.Proofs.YtmghklokbmdenaaDoor
namespace Go.Proofs.YtmghklokbmdenaaDoor
section
open Go.RowKit
theorem dg_ge : ∀ (f n : Nat), ∀ c ∈ Sy.dg f n, 32 ≤ c ∧ c < 128
  | 0, n => (fun c hc => by cases hc)
  | f + 1, n => fun c hc => by
    unfold Sy.dg at hc
    split at hc
    · simp at hc; subst hc; omega
    · rw [List.mem_append] at hc
      rcases hc with hc | hc
      · exact dg_ge f _ c hc
      · simp at hc; subst hc; omega
theorem app_ge {a b : List Int} (h1 : ∀ c ∈ a, 32 ≤ c ∧ c < 128) (h2 : ∀ c ∈ b, 32 ≤ c ∧ c < 128) : ∀ c ∈ a ++ b, 32 ≤ c ∧ c < 128 := fun c hc => by
  rw [List.mem_append] at hc
  exact hc.elim (h1 c) (h2 c)
theorem digits_ge (n : Int) : ∀ c ∈ Sy.digits n, 32 ≤ c ∧ c < 128 := by
  unfold Sy.digits
  split
  · intro c hc; simp at hc; subst hc; omega
  · exact dg_ge _ _
theorem rT_ge (n : Int) : ∀ c ∈ Sy.rT n, 32 ≤ c ∧ c < 128 := fun c hc => by
  unfold Sy.rT at hc
  rw [List.mem_cons] at hc
  rcases hc with rfl | hc
  · omega
  · exact digits_ge n c hc
theorem vT_ge (v : Sy.Vl) : ∀ c ∈ Sy.vT v, 32 ≤ c ∧ c < 128 := by
  unfold Sy.vT
  split
  · exact rT_ge _
  · exact digits_ge _
theorem opT_ge (n : Int) : ∀ c ∈ Sy.opT n, 32 ≤ c ∧ c < 128 := by
  unfold Sy.opT
  split
  · rename_i h
    obtain ⟨h0, h1⟩ := h
    rcases (by omega : n = 1 ∨ n = 2 ∨ n = 3 ∨ n = 4 ∨ n = 5 ∨ n = 6 ∨ n = 7 ∨ n = 8 ∨ n = 9 ∨ n = 10) with rfl | rfl | rfl | rfl | rfl | rfl | rfl | rfl | rfl | rfl <;> decide
  · decide
theorem kT_ge (s : Bool) : ∀ c ∈ Sy.kindT s, 32 ≤ c ∧ c < 128 := by cases s <;> decide
theorem adT_ge (a b : Sy.Vl) : ∀ c ∈ Sy.addrT a b, 32 ≤ c ∧ c < 128 := app_ge (app_ge (app_ge (app_ge (by decide) (vT_ge a)) (by decide)) (vT_ge b)) (by decide)
theorem two_ge (a b : Sy.Vl) : ∀ c ∈ Sy.two a b, 32 ≤ c ∧ c < 128 := app_ge (app_ge (vT_ge a) (by decide)) (vT_ge b)
theorem insT_ge (i : Sy.In) (h : ∀ c ∈ i.name, 32 ≤ c ∧ c < 128) : ∀ c ∈ Sy.insT i, 32 ≤ c ∧ c < 128 := by
  unfold Sy.insT
  by_cases c1 : i.kind = 1
  · rw [if_pos c1]; exact app_ge (app_ge (app_ge (app_ge (opT_ge _) (by decide)) (rT_ge _)) (by decide)) (two_ge _ _)
  rw [if_neg c1]
  by_cases c2 : i.kind = 2
  · rw [if_pos c2]; exact app_ge (app_ge (app_ge (by decide) (rT_ge _)) (by decide)) (adT_ge _ _)
  rw [if_neg c2]
  by_cases c3 : i.kind = 3
  · rw [if_pos c3]; exact app_ge (app_ge (app_ge (by decide) (adT_ge _ _)) (by decide)) (rT_ge _)
  rw [if_neg c3]
  by_cases c4 : i.kind = 4
  · rw [if_pos c4]; exact app_ge (app_ge (app_ge (by decide) (rT_ge _)) (by decide)) (two_ge _ _)
  rw [if_neg c4]
  by_cases c5 : i.kind = 5
  · rw [if_pos c5]; exact app_ge (app_ge (app_ge (app_ge (app_ge (by decide) (opT_ge _)) (by decide)) (two_ge _ _)) (by decide)) h
  rw [if_neg c5]
  by_cases c6 : i.kind = 6
  · rw [if_pos c6]; exact app_ge (by decide) h
  rw [if_neg c6]
  by_cases c8 : i.kind = 8
  · rw [if_pos c8]; exact app_ge (by decide) h
  rw [if_neg c8]
  by_cases c7 : i.kind = 7
  · rw [if_pos c7]; exact app_ge (by decide) (vT_ge _)
  rw [if_neg c7]
  by_cases c9 : i.kind = 9
  · rw [if_pos c9]; exact by decide
  rw [if_neg c9]
  by_cases c10 : i.kind = 10
  · rw [if_pos c10]; exact by decide
  rw [if_neg c10]
  by_cases c11 : i.kind = 11
  · rw [if_pos c11]; exact by decide
  rw [if_neg c11]
  decide
theorem text_ge (i : Sy.It) (h : ∀ c ∈ i.name, 32 ≤ c ∧ c < 128) (h2 : ∀ c ∈ i.ins.name, 32 ≤ c ∧ c < 128) : ∀ c ∈ Sy.text i, 32 ≤ c ∧ c < 128 := by
  unfold Sy.text
  split
  · exact app_ge (by decide) (digits_ge _)
  split
  · exact app_ge (by decide) (digits_ge _)
  split
  · exact app_ge (by decide) (digits_ge _)
  split
  · exact app_ge (kT_ge _) (rT_ge _)
  split
  · exact app_ge (app_ge (app_ge (kT_ge _) h) (by decide)) (digits_ge _)
  split
  · exact app_ge h (by decide)
  split
  · exact insT_ge _ h2
  · exact (fun c hc => by cases hc)
theorem word_ge {c : Int} (h : Lx.word c = true) : 32 ≤ c ∧ c < 128 := by
  simp [Lx.word, Lx.lower, Lx.dig] at h
  omega
theorem okName_ge {t : List Int} (h : Sy.okName t) : ∀ c ∈ t, 32 ≤ c ∧ c < 128 := by
  obtain ⟨⟨c, r, e, h1, h2⟩, _⟩ := h
  exact fun x hx => word_ge (h2 x hx)
theorem ok_names {i : Sy.It} (h : Sy.Ok i) : (∀ c ∈ i.name, 32 ≤ c ∧ c < 128) ∧ ∀ c ∈ i.ins.name, 32 ≤ c ∧ c < 128 := by
  have h0 : ∀ c ∈ ([] : List Int), 32 ≤ c ∧ c < 128 := fun c hc => by cases hc
  cases h with
  | none => exact ⟨h0, h0⟩
  | num _ _ _ => exact ⟨h0, h0⟩
  | reg _ => exact ⟨h0, h0⟩
  | mem h _ => exact ⟨okName_ge h, h0⟩
  | label h => exact ⟨okName_ge h, h0⟩
  | ins h => cases h <;> first | exact ⟨h0, h0⟩ | exact ⟨h0, okName_ge (by assumption)⟩
theorem textOk : Pg.TextOk := fun i h => by
  have h1 := ok_names h
  have h4 := text_ge i h1.1 h1.2
  refine ⟨?_, fun b hb => ?_⟩
  · show Sy.parse (Lx.runes (strOfNums (Sy.text i))) = .ok i
    rw [runes_str (Sy.text i) (fun c hc => by have := h4 c hc; omega)]
    exact Sy.say h
  · unfold Pg.bytes at hb
    rw [List.mem_map] at hb
    obtain ⟨c, hc, rfl⟩ := hb
    have := h4 c hc
    intro e
    have e2 := congrArg UInt8.toNat e
    simp at e2
    omega
theorem print_is (p : Pg.Pr) : Pg.printG p = Pg.print p := Pg.printG_is textOk p
end
end Go.Proofs.YtmghklokbmdenaaDoor
namespace Go.Proofs.YtmghklokbmdenaaDoor
section
open Go.RowKit
namespace Pg
theorem bodyG_len (all : List Lb) : ∀ (is : List Sy.In) (rest : List Lb) (k : Int), (bodyG all rest k is).length = rest.length + is.length
  | [], rest, k => by simp [bodyG]
  | i :: is, rest, k => by
    unfold bodyG
    rw [List.length_append, List.length_map, List.length_cons, bodyG_len all is, List.length_cons]
    have h := congrArg List.length (List.takeWhile_append_dropWhile (p := fun l : Lb => decide (l.at_ ≤ k)) (l := rest))
    rw [List.length_append] at h
    omega
theorem itemsG_len (p : Pr) : (itemsG p).length ≤ 3 + p.regs.length + p.mems.length + (p.labels.length + p.ins.length) := by
  unfold itemsG
  rw [List.length_append, List.length_append, List.length_append, List.length_map, bodyG_len]
  have := regs_len p.regs 0
  simp only [heads, List.length_cons, List.length_nil]
  omega
end Pg
theorem ok_64' {i : Sy.It} (h : Sy.Ok i) : It64 i := by
  have hn : ∀ n, Sy.okN n → I64 n := fun n h => by unfold Sy.okN at h; unfold I64; omega
  have hr : ∀ n, Sy.okR n → I64 n := fun n h => by unfold Sy.okR at h; unfold I64; omega
  have h0 : I64 0 := by unfold I64; omega
  cases h with
  | none => exact ⟨h0, h0, h0, h0, h0⟩
  | num _ _ h => exact ⟨hn _ h, h0, h0, h0, h0⟩
  | reg h => exact ⟨h0, h0, hr _ h, h0, h0⟩
  | mem _ h => exact ⟨hn _ h, h0, h0, h0, h0⟩
  | label h => exact ⟨h0, h0, h0, h0, h0⟩
  | ins h =>
    obtain ⟨⟨_, b, c, d, e⟩, _⟩ := Pg.okI_64 h
    exact ⟨h0, b, c, d, e⟩
theorem ok_ascS {i : Sy.It} (h : Sy.Ok i) : Asc i := ⟨fun c hc => by have := (ok_names h).1 c hc; omega, fun c hc => by have := (ok_names h).2 c hc; omega⟩
def Pg.shortB (p : Pg.Pr) : Bool := (Pg.itemsG p).all (fun i => decide (i.name.length ≤ 50000) && decide (i.ins.name.length ≤ 50000))
theorem wf_fit {p : Pg.Pr} (h : Pg.WF p) (hs : Pg.shortB p = true) (hl : p.labels.length ≤ 1000000) (ht : (Pg.text p).length ≤ 1000000) : Fit p := by
  have ok := wf_ok h hl
  have hi := Pg.itemsG_is h
  have hb := Pg.bodyG_len p.labels p.ins p.labels 0
  have h1 := h.ins1
  have hg := Pg.itemsG_len p
  have hf := ok.few
  have h4 := ok.r4
  refine ⟨ok, by rw [hb]; omega, by rw [hb]; omega, fun i hm => ?_, by omega, fun t e => ?_⟩
  · have ho := Pg.items_ok h i (by rw [← hi]; exact hm)
    have hsh := List.all_eq_true.1 hs i hm
    simp only [Bool.and_eq_true, decide_eq_true_eq] at hsh
    exact ⟨ok_64' ho, ⟨hsh.1, hsh.2⟩, ok_ascS ho⟩
  · unfold Pg.sayG at e
    rw [if_neg (by omega), hi, Pg.sayAll_ok _ (Pg.items_ok h)] at e
    injection e with e
    rw [← e]
    exact ht
end
end Go.Proofs.YtmghklokbmdenaaDoor
namespace Go.Proofs.YtmghklokbmdenaaDoor
section
open Go.RowKit
namespace Pg
def ad1 : List UInt8 := [119, 105, 100, 116, 104, 32, 50, 10, 115, 101, 99, 114, 101, 116, 32, 114, 49, 10, 112, 117, 98, 108, 105, 99, 32, 109, 32, 50, 10, 97, 58, 10, 32, 98, 114, 32, 108, 116, 32, 114, 49, 44, 32, 50, 44, 32, 97, 10, 32, 104, 97, 108, 116, 10]
def ad2 : List UInt8 := [119, 105, 100, 116, 104, 32, 50, 10, 106, 109, 112, 32, 98]
def ad3 : List UInt8 := [119, 105, 100, 116, 104, 32, 50, 10]
def aq : Pr := match parse ad1 with
  | .ok q => q
  | .error _ => p0
theorem aq_is : parse ad1 = .ok aq := by kernel_rfl
theorem ad2_is : parse ad2 = .error (1, 0) := by kernel_rfl
theorem ad3_is : parse ad3 = .error (1, 0) := by kernel_rfl
theorem aq_facts : aq.win = 1 ∧ aq.fuel = 50 ∧ aq.regs = [0, 2, 0, 0] ∧ aq.ins.length = 2 ∧ aq.labels.length = 1 ∧ (aq.ins[0]?.map (·.target)) = some 0 ∧ (text aq).length ≤ 1000000 ∧ shortB aq = true := by
  refine ⟨by kernel_rfl, by kernel_rfl, by kernel_rfl, by kernel_rfl, by kernel_rfl, by kernel_rfl, ?_, by kernel_rfl⟩
  rw [show (text aq).length = 69 by kernel_rfl]
  omega
theorem ap_is : printG aq = some [119, 105, 100, 116, 104, 32, 50, 10, 119, 105, 110, 100, 111, 119, 32, 49, 10, 102, 117, 101, 108, 32, 53, 48, 10, 115, 101, 99, 114, 101, 116, 32, 114, 49, 10, 112, 117, 98, 108, 105, 99, 32, 109, 32, 50, 10, 97, 58, 10, 98, 114, 32, 108, 116, 32, 114, 49, 44, 32, 50, 44, 32, 97, 10, 104, 97, 108, 116, 10] := by kernel_rfl
end Pg
theorem aq_fit : Fit Pg.aq := wf_fit (Pg.parse_wf Pg.aq_is) Pg.aq_facts.2.2.2.2.2.2.2 (by rw [Pg.aq_facts.2.2.2.2.1]; omega) Pg.aq_facts.2.2.2.2.2.2.1
set_option maxRecDepth 100000 in
set_option maxHeartbeats 32000000 in
theorem awake6 (w : World) (T : Sn.Tab w) : Calls Tryd.prog 7 #[] w (RetB (.bool true) w) := by
  have hp1 := fun W (h : Below w.heap.size w W) => parse_prog Pg.ad1 (by decide) W (T.below h)
  have hp2 := fun W (h : Below w.heap.size w W) => parse_prog Pg.ad2 (by decide) W (T.below h)
  have hp3 := fun W (h : Below w.heap.size w W) => parse_prog Pg.ad3 (by decide) W (T.below h)
  have hpr := fun vM vL vI W (h : Below w.heap.size w W) (hi : PrIn W Pg.aq vM vL vI) => pprint_any Pg.aq vM vL vI W (T.below h) hi aq_fit
  rw [Pg.aq_is] at hp1
  rw [Pg.ad2_is] at hp2
  rw [Pg.ad3_is] at hp3
  rw [Pg.ap_is] at hpr
  obtain ⟨f1, f2, f3, f4, f5, f6, _, _⟩ := Pg.aq_facts
  have hPA : ∀ vM vL vI, PrA Pg.aq vM vL vI = #[.int .i64 Pg.aq.w, .int .i64 1, .int .i64 50, .int .i64 0, .int .i64 2, .int .i64 0, .int .i64 0, vM, vL, vI] := fun vM vL vI => by
    unfold PrA
    rw [f1, f2, f3]
    rfl
  have hok : ∀ vM vL vI W, Below w.heap.size w W → PrIn W Pg.aq vM vL vI → Calls Tryd.prog 8 #[.agg #[.int .i64 Pg.aq.w, .int .i64 1, .int .i64 50, .int .i64 0, .int .i64 2, .int .i64 0, .int .i64 0, vM, vL, vI]] W (RetB (.bool true) W) := fun vM vL vI W h hi => by
    rw [← hPA vM vL vI]
    have := pok_any Pg.aq vM vL vI W (T.below h) hi aq_fit
    rw [Pg.ap_is] at this
    exact this
  clear hPA
  have HP1 := Lib.hid hp1; have HP2 := Lib.hid hp2; have HP3 := Lib.hid hp3; have HPR := Lib.hid hpr; have HOK := Lib.hid hok
  clear hp1 hp2 hp3 hpr hok T
  go_enter Tryd.func7, Tryd.ntmps7
  go_wp2_with fail
  refine (HP1.out _ (up0 w)).mono ?_
  rintro e w1 ⟨hb1, qM, qL, qI, rfl, hrows⟩
  have hin1 := hrows.inp
  obtain ⟨AM, cM, rfl, _⟩ := id hin1.rM
  obtain ⟨AL, cL, rfl, _⟩ := id hin1.rL
  obtain ⟨AI, cI, rfl, hcI, _, hAI⟩ := id hin1.rI
  obtain ⟨gI, oI, rfl, hgI, hcell⟩ := hAI (by rw [f4]; omega)
  obtain ⟨x0, hx0, ht0⟩ := Option.map_eq_some_iff.1 f6
  have htg : w1.cell? ⟨gI, oI + 8, none⟩ = some (.int .i64 0) := by
    have h := hcell 0 x0 hx0 8 (by decide)
    rw [Nat.zero_mul, Nat.add_zero] at h
    rw [h, ← ht0]
    rfl
  rw [f4] at hin1
  have HIN := Lib.hid hin1; have HB1 := Lib.hid hb1; have HTG := Lib.hid htg
  have hbx1 : ∀ W, Below (w1.alloc (.cells (PrA Pg.aq (.slice AM Pg.aq.mems.length cM) (.slice AL Pg.aq.labels.length cL) (.slice (some ⟨gI, oI, none⟩) 2 cI)) 29)).heap.size (w1.alloc (.cells (PrA Pg.aq (.slice AM Pg.aq.mems.length cM) (.slice AL Pg.aq.labels.length cL) (.slice (some ⟨gI, oI, none⟩) 2 cI)) 29)) W → W.heap[w1.heap.size]? = some (.cells (PrA Pg.aq (.slice AM Pg.aq.mems.length cM) (.slice AL Pg.aq.labels.length cL) (.slice (some ⟨gI, oI, none⟩) 2 cI)) 29 (0, 0)) := fun W hb => (hb.block w1.heap.size (by simp)).trans (heap_alloc_new w1 _)
  have HBX := Lib.hid hbx1
  clear hrows hin1 hb1 htg hbx1 hcell hAI hx0 ht0 f1 f2 f3 f5 f6
  go_wp2_with fail
  refine (HPR.out _ _ _ _ (upA HB1.out _) (HIN.out.up (upA (up0 w1) _))).mono ?_
  rintro e w2 ⟨rfl, hb2⟩
  have HB2 := Lib.hid hb2
  clear hb2
  go_wp2_with fail
  refine (HP2.out _ (upT (upA HB1.out _) HB2.out)).mono ?_
  rintro e w3 ⟨hb3, rfl⟩
  have HB3 := Lib.hid hb3
  clear hb3
  go_wp2_with fail
  refine (HP3.out _ (upA (upT (upT (upA HB1.out _) HB2.out) HB3.out) _)).mono ?_
  rintro e w4 ⟨hb4, rfl⟩
  have hbw := upT (upA (upT HB2.out HB3.out) _) hb4
  have hbx4 := HBX.out w4 hbw
  have hlt4 : w1.heap.size < w4.heap.size := (Array.getElem?_eq_some_iff.1 hbx4).1
  have hb14 : Below w1.heap.size w1 w4 := upT (upA (up0 w1) _) hbw
  have z0 : ∀ o, (w4.alloc o).cell? ⟨w1.heap.size, 0, none⟩ = some (.int .i64 Pg.aq.w) := fun o => (World.cell?_alloc_lt _ _ _ hlt4).trans ((cell_of_row _ _ 0 _ _ _ hbx4).trans (by kernel_rfl))
  have z1 : ∀ o, (w4.alloc o).cell? ⟨w1.heap.size, 1, none⟩ = some (.int .i64 1) := fun o => (World.cell?_alloc_lt _ _ _ hlt4).trans ((cell_of_row _ _ 1 _ _ _ hbx4).trans (by kernel_rfl))
  have z2 : ∀ o, (w4.alloc o).cell? ⟨w1.heap.size, 2, none⟩ = some (.int .i64 50) := fun o => (World.cell?_alloc_lt _ _ _ hlt4).trans ((cell_of_row _ _ 2 _ _ _ hbx4).trans (by kernel_rfl))
  have z3 : ∀ o, (w4.alloc o).cell? ⟨w1.heap.size, 3, none⟩ = some (.int .i64 0) := fun o => (World.cell?_alloc_lt _ _ _ hlt4).trans ((cell_of_row _ _ 3 _ _ _ hbx4).trans (by kernel_rfl))
  have z4 : ∀ o, (w4.alloc o).cell? ⟨w1.heap.size, 4, none⟩ = some (.int .i64 2) := fun o => (World.cell?_alloc_lt _ _ _ hlt4).trans ((cell_of_row _ _ 4 _ _ _ hbx4).trans (by kernel_rfl))
  have z5 : ∀ o, (w4.alloc o).cell? ⟨w1.heap.size, 5, none⟩ = some (.int .i64 0) := fun o => (World.cell?_alloc_lt _ _ _ hlt4).trans ((cell_of_row _ _ 5 _ _ _ hbx4).trans (by kernel_rfl))
  have z6 : ∀ o, (w4.alloc o).cell? ⟨w1.heap.size, 6, none⟩ = some (.int .i64 0) := fun o => (World.cell?_alloc_lt _ _ _ hlt4).trans ((cell_of_row _ _ 6 _ _ _ hbx4).trans (by kernel_rfl))
  have z7 : ∀ o, (w4.alloc o).cell? ⟨w1.heap.size, 7, none⟩ = some (.slice AM Pg.aq.mems.length cM) := fun o => (World.cell?_alloc_lt _ _ _ hlt4).trans ((cell_of_row _ _ 7 _ _ _ hbx4).trans (by kernel_rfl))
  have z8 : ∀ o, (w4.alloc o).cell? ⟨w1.heap.size, 8, none⟩ = some (.slice AL Pg.aq.labels.length cL) := fun o => (World.cell?_alloc_lt _ _ _ hlt4).trans ((cell_of_row _ _ 8 _ _ _ hbx4).trans (by kernel_rfl))
  have z9 : ∀ o, (w4.alloc o).cell? ⟨w1.heap.size, 9, none⟩ = some (.slice (some ⟨gI, oI, none⟩) 2 cI) := fun o => (World.cell?_alloc_lt _ _ _ hlt4).trans ((cell_of_row _ _ 9 _ _ _ hbx4).trans (by kernel_rfl))
  have zt : ∀ o, (w4.alloc o).cell? ⟨gI, oI + 8, none⟩ = some (.int .i64 0) := fun o => (World.cell?_alloc_lt _ _ _ (Nat.lt_of_lt_of_le hgI hb14.size)).trans ((hb14.cell hgI).trans HTG.out)
  have hs1 : (strOfNums [119, 105, 100, 116, 104, 32, 50, 10, 119, 105, 110, 100, 111, 119, 32, 49, 10, 102, 117, 101, 108, 32, 53, 48, 10, 115, 101, 99, 114, 101, 116, 32, 114, 49, 10, 112, 117, 98, 108, 105, 99, 32, 109, 32, 50, 10, 97, 58, 10, 98, 114, 32, 108, 116, 32, 114, 49, 44, 32, 50, 44, 32, 97, 10, 104, 97, 108, 116, 10]).toList = [119, 105, 100, 116, 104, 32, 50, 10, 119, 105, 110, 100, 111, 119, 32, 49, 10, 102, 117, 101, 108, 32, 53, 48, 10, 115, 101, 99, 114, 101, 116, 32, 114, 49, 10, 112, 117, 98, 108, 105, 99, 32, 109, 32, 50, 10, 97, 58, 10, 98, 114, 32, 108, 116, 32, 114, 49, 44, 32, 50, 44, 32, 97, 10, 104, 97, 108, 116, 10] := by rw [Lib.strOfNums_toList]; rfl
  have HB14 := Lib.hid hb14; have HN4 := Lib.hid (upT HB1.out hb14)
  have heqa : ∀ W, (Op.equalIn 10000 24 (.agg #[.int .i64 0, .int .i64 2, .int .i64 0, .int .i64 0]) (.agg #[.int .i64 0, .int .i64 2, .int .i64 0, .int .i64 0])).run Tryd.prog W = .ok true W := fun W => (eq_arr 9997 0 2 0 0 0 2 0 0 W).trans (by rw [decide_eq_true rfl])
  clear hb4 hbw hbx4 hb14
  go_wp2_with (go_at_call 8; refine (HOK.out _ _ _ _ (upA HN4.out _) (HIN.out.up (upA HB14.out _))).mono ?_; rintro e w5 ⟨rfl, hb5⟩)
  go_ret
  exact ⟨rfl, upT (upA HN4.out _) hb5⟩
end
end Go.Proofs.YtmghklokbmdenaaDoor
