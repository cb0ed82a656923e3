/- What the answer is shut by, the row's door and tables; the walk of SynsFields, by its kind. -/
import Derived.Test.YtcpbbkpfickfiaaDoorMem
import Derived.Carry
import Derived.ChangeSame
import Derived.ChangeSlices
import Derived.SizedLaws
import Derived.Test.YtcpbbkpfickfiaaDoorCards
import Derived.Test.YtcpbbkpfickfiaaDoorTie
import Derived.ProofKit
import Derived.LaidMore
import Derived.OpenShut
import Derived.Stop.Joined
import Derived.Test.YtcpbbkpfickfiaaDoorSnTab
import Derived.MakeChecks
import Derived.Test.YtcpbbkpfickfiaaDoorSnFd0
import Derived.Test.YtcpbbkpfickfiaaDoorSnFd1
import Derived.Test.YtcpbbkpfickfiaaDoorSnFd2
import Derived.Test.YtcpbbkpfickfiaaDoorSnFd3
import Derived.Test.YtcpbbkpfickfiaaDoorSnFd4
import Derived.Test.YtcpbbkpfickfiaaDoorSnFd5
set_option linter.unusedVariables false
set_option linter.unusedSimpArgs false
namespace Go.Proofs.YtcpbbkpfickfiaaDoor
section
open Go.ChangeShapes Go.WideShapes Go.ChangeAt Go.RowKit
theorem laidOut : laidOutB Tryd.prog = true := by kernel_rfl
theorem own : ownKnob Tryd.prog.godebug = none := by kernel_rfl

section
variable {H : Type} {enc : TypeId × Value → H} {P : Program}
/-- all arguments read behind the call as they did, if nothing that was there has turned -/
theorem args_stay (hl : laidOutB P = true) {W W' : World} {sp : Nat → Bool} (hb : Below W.heap.size W W') : ∀ {ts : List TypeId} {vs : List Value} {ds : List (DataW H)} {p : List MemPlace},
    (∀ t ∈ ts, P.readableRec t = true ∧ t < P.types.size) → DataW.TrodAll enc P W 0 (fun _ => true) true ts vs ds p → (∀ x ∈ p, x.block < W.heap.size) → (∀ x ∈ p, sp x.block = true) →
    DataW.TrodAll enc P W' 0 sp true ts vs ds p
  | [], vs, ds, p, _, h, _, _ => by
    obtain ⟨rfl, rfl, rfl⟩ := trodAll_nil h
    exact trodAll_mk0
  | t :: ts, vs, ds, p, hr, h, hlt, hs => by
    obtain ⟨v, vs', d, ds', p1, p2, rfl, rfl, rfl, h1, h2⟩ := trodAll_cons h
    have ht := hr t (by simp)
    exact trodAll_cons_mk (WideElems.Trod_stays hl ht.1 ht.2 h1 (fun x hx => hb.same (hlt x (by simp [hx]))) (fun x hx => hs x (by simp [hx])))
      (args_stay hl hb (fun t' ht' => hr t' (by simp [ht'])) h2 (fun x hx => hlt x (by simp [hx])) (fun x hx => hs x (by simp [hx])))

/-- a law's answer: true, the arguments as they were -/
theorem law_post {f : Func} {s : ChangeSpec} {apart fresh handsOn again : Bool} {W W' : World} {args : Array Value} {ds gs : List (DataW H)} {before : List MemPlace} {tb : TypeId}
    (hl : laidOutB P = true) (hr : ∀ t ∈ f.params.toList, P.readableRec t = true ∧ t < P.types.size) (hrt : f.resultTypes = #[tb]) (htb : P.underlying tb = some .bool)
    (hv : s.vars = []) (hW : DataW.Whole enc P f.params.toList s.vars apart W args.toList ds gs before) (hfn : s.fn H (ds ++ gs) = { results := [.lit (.bool true)], args := ds })
    (hb : Below W.heap.size W W') : s.post enc P f apart fresh handsOn again W args (.bool true) W' := by
  have hW0 := hW
  have hlt : ∀ x ∈ before, x.block < W.heap.size := fun x hx => hW.lt x hx
  obtain ⟨p, q, hA, hV, hbe, hz, hn⟩ := hW
  have hq : gs = [] ∧ q = [] := by rw [hv] at hV; exact trodVars_none hV
  obtain ⟨rfl, rfl⟩ := hq
  rw [List.append_nil] at hbe
  subst hbe
  have hres : ∀ (b : Nat) (sp : Nat → Bool) (hd : Bool), DataW.TrodAll enc P W' b sp hd f.resultTypes.toList ((Value.bool true).resultList f.resultTypes.size) (s.fn H (ds ++ [])).results [] := by
    intro b sp hd
    rw [hfn, hrt]
    exact trodAll_cons_mk (shut_bool htb _) trodAll_mk0
  have hargs : ∀ sp : Nat → Bool, (∀ x ∈ before, sp x.block = true) → DataW.TrodAll enc P W' 0 sp true f.params.toList args.toList (s.fn H (ds ++ [])).args before := by
    intro sp hs
    rw [hfn]
    exact args_stay hl hb hr hA hlt hs
  have hvars : ∀ sp : Nat → Bool, DataW.TrodVars enc P W' sp s.vars (s.fn H (ds ++ [])).vars [] := by
    intro sp
    rw [hfn, hv]
    rfl
  refine ⟨ds, [], before, [], before, [], hW0, hres _ _ _, hargs _ (fun x hx => by simpa using hlt x hx), hvars _, World.keptBut_mono (fun x hx => ⟨hx, .inr (by simpa using hx)⟩) (hb.frame (· ∈ before)), fun _ => ?_⟩
  have hok : ∀ (j : Nat) (t : TypeId) (r : Value), f.resultTypes[j]? = some t → ((Value.bool true).resultList f.resultTypes.size)[j]? = some r → Value.okWide P W' .any 0 t r := ok_one hrt rfl (okWide_bool_mk htb _)
  refine ⟨hok, _, _, ([] ++ before) ++ [], ⟨[] ++ before, [], trodAll_append (hargs _ (fun _ _ => rfl)) (hres _ _ _), hvars _, rfl, ?_, ?_⟩, ?_⟩
  · intro b off hp
    have hin : MemPlace.cell b off ∈ before := by simpa using hp
    rw [hb.frozen (hlt _ hin)]
    exact hz b off (by simpa using hin)
  · intro ha
    have := hn ha
    simpa using this
  · intro x hx _
    simpa using hx

variable {w : World}
/-- an argument that is a row of numbers -/
theorem open_row {t e : TypeId} {k : IntKind} {v : Value} {d : DataW H} {p : List MemPlace} {base : Nat} (ht : P.underlying t = some (.slice e)) (he : P.underlying e = some (.int k)) (hc : P.cellsOf e = 1) (hby : 1 ≤ P.bytesOf e)
    {ts : List TypeId} {ds : List (DataW H)} (hsz : (DataW.weightsEach P ts ds).all (· ≤ reachBytes) = true) {j : Nat} (htj : ts[j]? = some t) (hdj : ds[j]? = some d)
    (hval : Value.okWide P w .any base t v) (h : DataW.Trod enc P w 0 (fun _ => true) true t v d p) :
    ∃ (A : Option Addr) (c : Nat) (zs : List Int), v = .slice A zs.length c ∧ zs.length ≤ c ∧ c ≤ 140737488351232 ∧ Rd w w.heap.size A (zs.map (Value.int k)) ∧ (∀ z ∈ zs, (Lit.int k z).wf = true) := by
  obtain ⟨a0, l0, c0, rfl⟩ := okWide_slice ht hval
  obtain ⟨fuel, hf⟩ := h
  rcases open_ints ht he hc hf with ⟨h1, _⟩ | ⟨a, len, cap, zs, h1, _, hlc, hcm, hzl, hx, hcell, hwf⟩
  · refine ⟨none, 0, [], ?_, by simp, by simp, Rd.nil, by simp⟩
    simpa [Value.cells] using h1
  · have hzl : zs.length = cap := hzl
    have hd : d = .slice (lits k (zs.take len)) (lits k (zs.drop len)) := congrArg Prod.fst hx
    have hcb : cap ≤ 140737488351232 := by
      rw [hd] at hdj
      have h2 := sized_slice hsz htj hdj ht
      simp only [lits, List.length_map, List.length_take, List.length_drop, reachBytes] at h2
      have h3 : cap * 1 ≤ (min len zs.length + (zs.length - len)) * P.bytesOf e := Nat.mul_le_mul (by omega) hby
      omega
    refine ⟨some a, cap, zs.take len, ?_, by simp; omega, hcb, ?_, fun z hz => hwf z (List.mem_of_mem_take hz)⟩
    · rw [List.length_take, Nat.min_eq_left (by omega)]
      simpa [Value.cells] using h1
    · intro hpos
      have hc0 : ∀ j u, ((zs.take len).map (Value.int k))[j]? = some u → w.cell? (a.add j) = some u := by
        intro j u hu
        have hj := (List.getElem?_eq_some_iff.1 hu).1
        simp only [List.length_map, List.length_take] at hj
        rw [hcell j (by omega)]
        rw [List.getElem?_map, List.getElem?_take, if_pos (by omega)] at hu
        simpa [List.getD, show j < zs.length by omega] using hu
      refine ⟨a, rfl, ?_, hc0⟩
      have := World.block_lt_of_cell? w (a.add 0) (hc0 0 _ (List.getElem?_eq_getElem hpos))
      rwa [adr_block] at this
end
theorem wf_i64 {zs : List Int} (h : ∀ z ∈ zs, (Lit.int .i64 z).wf = true) : ∀ z ∈ zs, -9223372036854775808 ≤ z ∧ z < 9223372036854775808 := fun z hz => by
  have := bounds_i64 (h z hz); omega
theorem wf_u8 {zs : List Int} (h : ∀ z ∈ zs, (Lit.int .u8 z).wf = true) : ∀ z ∈ zs, 0 ≤ z ∧ z < 256 := fun z hz => by
  have := bounds_u8 (h z hz); omega
end
section
open Go.ChangeShapes Go.WideShapes Go.ChangeAt Go.RowKit
/-- so many steps has the door's run -/
def doorSteps : Nat := 92
theorem door_met (os : Os) (args : Array Value) : laidMetH Tryd.prog Rows.synsFormsRow.laid ((World.doorLaid Tryd.prog doorSteps os).forCall (fun _ _ => 0) ⟨#[], args, []⟩).memory :=
  laidMetH_of_parts3 (fuel := 8) (laidMet_of_run' 8 (by kernel_rfl) (by kernel_rfl)) (by kernel_rfl) (by kernel_rfl)
end
section
open Go.ChangeShapes Go.WideShapes Go.ChangeAt Go.RowKit
namespace Sn
theorem gF : Tryd.prog.globalNamed "augury/syns.forms" = some 0 := by kernel_rfl
theorem gO : Tryd.prog.globalNamed "augury/syns.ops" = some 1 := by kernel_rfl
theorem gP : Tryd.prog.globalNamed "internal/strconv.uint64pow10" = some 4 := by kernel_rfl
theorem yF : (Tryd.prog.globals[0]?).map (·.type) = some 54 := by kernel_rfl
theorem yO : (Tryd.prog.globals[1]?).map (·.type) = some 107 := by kernel_rfl
theorem yP : (Tryd.prog.globals[4]?).map (·.type) = some 136 := by kernel_rfl
theorem var_heap {P : Program} {w : World} {n : String} {g : Nat} {cs : Array Value} (hg : P.globalNamed n = some g) (h : w.var? P n = some cs) : ∃ t fr, w.heap[g]? = some (.cells cs t fr) := by
  simp only [World.var?, hg, Option.bind_some] at h
  split at h
  · rename_i cs' t fr e
    injection h with h
    subst h
    exact ⟨t, fr, e⟩
  · cases h
/-- cells in rows of m each -/
theorem chunks (m : Nat) : ∀ (rows : List (List Value)) (cs : List Value), cs.length = rows.length * m → (∀ (i : Nat) r, rows[i]? = some r → (cs.drop (i * m)).take m = r) → cs = rows.flatten
  | [], cs, h, _ => by simp at h; simp [h]
  | r :: rows, cs, h, hr => by
    have h0 := hr 0 r rfl
    simp at h0
    have ht := chunks m rows (cs.drop m) (by simp at h ⊢; rw [h, Nat.succ_mul]; omega) (fun i x hx => by
      have := hr (i + 1) x (by simpa using hx)
      rw [List.drop_drop, show m + i * m = (i + 1) * m by rw [Nat.succ_mul]; omega]
      exact this)
    rw [List.flatten_cons, ← ht, ← h0, List.take_append_drop]
section
variable {H : Type} {enc : TypeId × Value → H} {w : World} {base : Nat} {sp : Nat → Bool} {held : Bool}
theorem lit_str {fuel : Nat} {e : TypeId} (he : Tryd.prog.underlying e = some .string) {cs : List Value} {b : List UInt8} {p : List MemPlace} (h : DataW.trod enc Tryd.prog w base sp held fuel e cs = some (.lit (.string b), p)) : cs = [.string ⟨b.toArray⟩] := by
  obtain ⟨s, h1, h2, _⟩ := DataW.trod_string he h
  simp only [Prod.mk.injEq, DataW.lit.injEq, Lit.string.injEq] at h2
  rw [h1, h2.1]
theorem lit_int {fuel : Nat} {e : TypeId} {k : IntKind} (he : Tryd.prog.underlying e = some (.int k)) {cs : List Value} {n : Int} {p : List MemPlace} (h : DataW.trod enc Tryd.prog w base sp held fuel e cs = some (.lit (.int k n), p)) : cs = [.int k n] := by
  obtain ⟨s, h1, h2, _⟩ := DataW.trod_int he h
  simp only [Prod.mk.injEq, DataW.lit.injEq, Lit.int.injEq] at h2
  rw [h1, h2.1.2]
theorem lit_bool {fuel : Nat} {e : TypeId} (he : Tryd.prog.underlying e = some .bool) {cs : List Value} {b : Bool} {p : List MemPlace} (h : DataW.trod enc Tryd.prog w base sp held fuel e cs = some (.lit (.bool b), p)) : cs = [.bool b] := by
  obtain ⟨s, h1, h2⟩ := DataW.trod_bool he h
  simp only [Prod.mk.injEq, DataW.lit.injEq, Lit.bool.injEq] at h2
  rw [h1, h2.1]
end
section
variable {H : Type} {enc : TypeId × Value → H} {w : World} {base : Nat} {sp : Nat → Bool} {held : Bool}
theorem six {cs : List Value} (h : cs.length = 6) : ∃ c0 c1 c2 c3 c4 c5, cs = [c0, c1, c2, c3, c4, c5] := by
  match cs, h with
  | [c0, c1, c2, c3, c4, c5], _ => exact ⟨c0, c1, c2, c3, c4, c5, rfl⟩
set_option maxRecDepth 100000 in
/-- a form's row -/
theorem row_form {fuel : Nat} {cs : List Value} {wd rs : List UInt8} {k i o : Int} {s : Bool} {p : List MemPlace}
    (h : DataW.trod enc Tryd.prog w base sp held fuel 53 cs = some (.agg [.lit (.string wd), .lit (.string rs), .lit (.int .i64 k), .lit (.int .i64 i), .lit (.int .i64 o), .lit (.bool s)], p)) :
    cs = [.string ⟨wd.toArray⟩, .string ⟨rs.toArray⟩, .int .i64 k, .int .i64 i, .int .i64 o, .bool s] := by
  obtain ⟨xs, n, _, hx, hl, hlen, hf⟩ := DataW.trod_struct Tryd.underlying53 h
  have hS6 : Tryd.prog.cellsOf 53 = 6 := by kernel_rfl
  have hl6 : cs.length = 6 := hl.trans hS6
  simp only [Prod.mk.injEq, DataW.agg.injEq] at hx
  match xs, hlen, hx with
  | [x0, x1, x2, x3, x4, x5], _, hx =>
    simp only [List.map_cons, List.map_nil, List.cons.injEq, and_true] at hx
    obtain ⟨⟨e0, e1, e2, e3, e4, e5⟩, _⟩ := hx
    obtain ⟨c0, c1, c2, c3, c4, c5, rfl⟩ := six hl6
    · have f0 := hf 0 _ rfl; have f1 := hf 1 _ rfl; have f2 := hf 2 _ rfl; have f3 := hf 3 _ rfl; have f4 := hf 4 _ rfl; have f5 := hf 5 _ rfl
      obtain ⟨x0a, x0b⟩ := x0; obtain ⟨x1a, x1b⟩ := x1; obtain ⟨x2a, x2b⟩ := x2; obtain ⟨x3a, x3b⟩ := x3; obtain ⟨x4a, x4b⟩ := x4; obtain ⟨x5a, x5b⟩ := x5
      simp only at e0 e1 e2 e3 e4 e5
      subst e0 e1 e2 e3 e4 e5
      have g0 := lit_str Tryd.underlying9 f0
      have g1 := lit_str Tryd.underlying9 f1
      have g2 := lit_int Tryd.underlying3 f2
      have g3 := lit_int Tryd.underlying3 f3
      have g4 := lit_int Tryd.underlying3 f4
      have g5 := lit_bool Tryd.underlying4 f5
      have hS : Tryd.prog.cellsOf 9 = 1 := by kernel_rfl
      have hI : Tryd.prog.cellsOf 3 = 1 := by kernel_rfl
      have hB : Tryd.prog.cellsOf 4 = 1 := by kernel_rfl
      simp [hS, hI, hB] at g0 g1 g2 g3 g4 g5
      subst g0 g1 g2 g3 g4 g5
      rfl
set_option maxRecDepth 100000 in
/-- a row of arrays of one type -/
theorem arr_cells {fuel : Nat} {t e : TypeId} {n m : Nat} {cs : List Value} {ds : List (DataW H)} {rows : List (List Value)} {p : List MemPlace} (ht : Tryd.prog.underlying t = some (.array n e)) (he : Tryd.prog.cellsOf e = m) (hn : Tryd.prog.cellsOf t = n * m) (hr : rows.length = n)
    (hrow : ∀ (i : Nat) d, ds[i]? = some d → ∃ r, rows[i]? = some r ∧ ∀ f c q, DataW.trod enc Tryd.prog w base sp held f e c = some (d, q) → c = r)
    (h : DataW.trod enc Tryd.prog w base sp held fuel t cs = some (.agg ds, p)) : cs = rows.flatten := by
  obtain ⟨xs, f, _, hx, hl, hlen, hel⟩ := DataW.trod_array ht h
  simp only [Prod.mk.injEq, DataW.agg.injEq] at hx
  refine chunks m rows cs (by rw [hl, hn, hr]) (fun i r hi => ?_)
  have hin : i < n := by rw [← hr]; exact (List.getElem?_eq_some_iff.1 hi).1
  have h1 := hel i hin
  rw [he] at h1
  obtain ⟨x, hxi⟩ : ∃ x, xs[i]? = some x := ⟨xs[i]'(by omega), by simp [show i < xs.length by omega]⟩
  rw [hxi] at h1
  obtain ⟨d, q⟩ := x
  have hd : ds[i]? = some d := by rw [hx.1, List.getElem?_map, hxi]; rfl
  obtain ⟨r', hr', hc⟩ := hrow i d hd
  rw [hi] at hr'
  injection hr' with hr'
  rw [hr']
  exact hc _ _ _ h1
end
theorem formsL_len : Sn.forms.length = 20 := rfl
set_option maxRecDepth 100000 in
set_option maxHeartbeats 2000000 in
theorem tab_of {W : World} (h : laidMetH Tryd.prog Rows.synsFormsRow.laid W) : Tab W := by
  have h : laidMet Tryd.prog Rows.synsFormsRow.laid W := by
    rw [MakeChecks.laidMetH_plain _ _ _ (by kernel_rfl)] at h
    exact h
  obtain ⟨ps, hv, _, _⟩ := h
  obtain ⟨_, _, _, _, _, _, _, _, _, _, hv, _⟩ := hv
  obtain ⟨_, _, _, _, _, _, _, _, _, _, hv, _⟩ := hv
  obtain ⟨g2, t2, c2, f2, p2, q2, n2, y2, v2, d2, hv, _⟩ := hv
  obtain ⟨_, _, _, _, _, _, _, _, _, _, hv, _⟩ := hv
  obtain ⟨_, _, _, _, _, _, _, _, _, _, hv, _⟩ := hv
  obtain ⟨g5, t5, c5, f5, p5, q5, n5, y5, v5, d5, hv, _⟩ := hv
  obtain ⟨g6, t6, c6, f6, p6, q6, n6, y6, v6, d6, hv, _⟩ := hv
  obtain rfl := Option.some.inj (gP.symm.trans n2)
  obtain rfl := Option.some.inj (yP.symm.trans y2)
  obtain rfl := Option.some.inj (gF.symm.trans n5)
  obtain rfl := Option.some.inj (yF.symm.trans y5)
  obtain rfl := Option.some.inj (gO.symm.trans n6)
  obtain rfl := Option.some.inj (yO.symm.trans y6)
  unfold Rows.laid_augury_syns_forms at d5
  unfold Rows.laid_augury_syns_ops at d6
  have e5 : c5.toList = (forms.map rowF).flatten := arr_cells (n := 20) (m := 6) Tryd.underlying54 (by kernel_rfl) (by kernel_rfl) rfl (fun i d hd => by
    have hi : i < 20 := (List.getElem?_eq_some_iff.1 hd).1
    rcases (by omega : i = 0 ∨ i = 1 ∨ i = 2 ∨ i = 3 ∨ i = 4 ∨ i = 5 ∨ i = 6 ∨ i = 7 ∨ i = 8 ∨ i = 9 ∨ i = 10 ∨ i = 11 ∨ i = 12 ∨ i = 13 ∨ i = 14 ∨ i = 15 ∨ i = 16 ∨ i = 17 ∨ i = 18 ∨ i = 19) with rfl | rfl | rfl | rfl | rfl | rfl | rfl | rfl | rfl | rfl | rfl | rfl | rfl | rfl | rfl | rfl | rfl | rfl | rfl | rfl
    all_goals (injection hd with hd; subst hd; exact ⟨_, rfl, fun f c q h => row_form h⟩)) d5
  have e6 : c6.toList = (opsL.map fun s => [Value.string (strOfNums s)]).flatten := arr_cells (n := 11) (m := 1) Tryd.underlying107 (by kernel_rfl) (by kernel_rfl) rfl (fun i d hd => by
    have hi : i < 11 := (List.getElem?_eq_some_iff.1 hd).1
    rcases (by omega : i = 0 ∨ i = 1 ∨ i = 2 ∨ i = 3 ∨ i = 4 ∨ i = 5 ∨ i = 6 ∨ i = 7 ∨ i = 8 ∨ i = 9 ∨ i = 10) with rfl | rfl | rfl | rfl | rfl | rfl | rfl | rfl | rfl | rfl | rfl
    all_goals (injection hd with hd; subst hd; exact ⟨_, rfl, fun f c q h => lit_str Tryd.underlying9 h⟩)) d6
  have e2 : c2.toList = Lib.pow10Tab.map fun z => Value.int .u64 z := Lib.cells_of_tab (k := .u64) (zs := Lib.pow10Tab) Tryd.underlying136 Tryd.underlying120 (by kernel_rfl) (by kernel_rfl) d2
  have a5 : c5 = formsC := by
    apply Array.ext'
    rw [e5]
    simp [formsC, List.flatMap_def]
  have a6 : c6 = opsC := by
    apply Array.ext'
    rw [e6]
    rfl
  have a2 : c2 = (Lib.pow10Tab.map fun z => Value.int .u64 z).toArray := by
    apply Array.ext'
    rw [e2]
  obtain ⟨t5', r5, h5⟩ := var_heap gF v5
  obtain ⟨t6', r6, h6⟩ := var_heap gO v6
  obtain ⟨t2', r2, h2⟩ := var_heap gP v2
  exact ⟨⟨t5', r5, by rw [h5, a5]⟩, ⟨t6', r6, by rw [h6, a6]⟩, ⟨t2', r2, by rw [h2, a2]⟩⟩
end Sn
end
section
open Go.RowKit
theorem walk_SynsFields (op d a b kind : Int) (w : World) (T : Sn.Tab w) : Calls Tryd.prog 4 #[.int .i64 op, .int .i64 d, .int .i64 a, .int .i64 b, .int .i64 kind] w (RetB (.bool true) w) := by
  by_cases h1 : bits .and .i64 kind 7 = 1
  · exact walkF_1 op d a b kind w T h1
  by_cases h2 : bits .and .i64 kind 7 = 2
  · exact walkF_2 op d a b kind w T h2
  by_cases h3 : bits .and .i64 kind 7 = 3
  · exact walkF_3 op d a b kind w T h3
  by_cases h4 : bits .and .i64 kind 7 = 4
  · exact walkF_4 op d a b kind w T h4
  by_cases h5 : bits .and .i64 kind 7 = 5
  · exact walkF_5 op d a b kind w T h5
  exact walkF_0 op d a b kind w T (beq_eq_false_iff_ne.2 h1) (beq_eq_false_iff_ne.2 h2) (beq_eq_false_iff_ne.2 h3) (beq_eq_false_iff_ne.2 h4) (beq_eq_false_iff_ne.2 h5)
end
end Go.Proofs.YtcpbbkpfickfiaaDoor
