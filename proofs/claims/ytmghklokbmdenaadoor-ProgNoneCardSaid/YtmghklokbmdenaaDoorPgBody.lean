/- Package prog's body: each instruction behind the labels that stand at it, and the labels behind them all. -/
import Derived.Test.YtmghklokbmdenaaDoorMgPr
import Derived.Test.YtmghklokbmdenaaDoorMgPa
set_option linter.unusedVariables false
set_option linter.unusedSimpArgs false
namespace Go.Proofs.YtmghklokbmdenaaDoor
open Go.RowKit
theorem RowV.tail {α : Type} {enc : α → List Value} {m : Nat} {w : World} {a : α} {l : List α} {A : Option Addr} {cap : Nat} (h : RowV enc m w (.slice A (a :: l).length cap) (a :: l)) :
    ∃ g o, A = some ⟨g, o, none⟩ ∧ g < w.heap.size ∧ (∀ k, k < m → w.cell? ⟨g, o + k, none⟩ = (enc a)[k]?) ∧ ∀ c2, c2 = cap - 1 → RowV enc m w (.slice (if cap = 1 then some ⟨g, o, none⟩ else some ⟨g, o + m, none⟩) l.length c2) l := by
  obtain ⟨A', cap', e, h2, h3, h4⟩ := h
  injection e with e1 e2 e3
  subst e1 e3
  obtain ⟨g, o, rfl, hg, hc⟩ := h4 (by simp)
  refine ⟨g, o, rfl, hg, fun k hk => by have := hc 0 a rfl k hk; simpa using this, fun c2 hc2 => ⟨_, c2, rfl, by simp at h2; omega, by omega, fun hl => ?_⟩⟩
  have hcap : cap ≠ 1 := by simp at h2; omega
  rw [if_neg hcap]
  refine ⟨g, o + m, rfl, hg, fun j x hj k hk => ?_⟩
  have := hc (j + 1) x (by simpa using hj) k hk
  rw [← this]
  congr 2
  rw [Nat.succ_mul]
  omega
theorem cells_setB {w : World} {g : Nat} {cs : Array Value} {ty : TypeId} (h : w.heap[g]? = some (.cells cs ty (0, 0))) (k : Nat) (v : Value) : (w.setCell ⟨g, k, none⟩ v).heap[g]? = some (.cells (cs.setIfInBounds k v) ty (0, 0)) := by
  rw [setCell_eq_setRow _ _ _ _ _ _ v h]
  exact setRow_heap _ _ _ _ _ _ h
def vLen : Value → Nat
  | .slice _ n _ => n
  | _ => 0
theorem flt_snoc (xs : List Sy.It) (i : Sy.It) : flt itL xs ++ itL i = flt itL (xs ++ [i]) := by rw [flt_app, flt_one]
theorem irow_snoc {w : World} {B : Nat} {v : Value} {xs : List Sy.It} {i : Sy.It} (h : w.ownsRow B 55 13 v (xs.length + 1) (flt itL xs ++ itL i)) : IRow w B v (xs ++ [i]) := by
  unfold IRow
  rw [List.length_append, ← flt_snoc]
  exact h
set_option maxRecDepth 100000 in
set_option maxHeartbeats 32000000 in
theorem body_any (p : Pg.Pr) (vM vL vI : Value) (w : World) (h : PrIn w p vM vL vI) (ho : PrOk p) : Calls Tryd.prog 48 #[.agg (PrA p vM vL vI)] w (RowG (Pg.bodyG p.labels p.labels 0 p.ins) w) := by
  have hrL := h.rL
  obtain ⟨AL, cL, eL, hcL, hmL, _⟩ := h.rL
  obtain ⟨AI, cI, rfl, hcI, hmI, hAI⟩ := h.rI
  obtain ⟨i0, hi0, hz0, hs0, hb0⟩ := info_parts infoItm
  have hfew := ho.few
  have HAI := Lib.hid hAI; have HRL := Lib.hid hrL; have HEL := Lib.hid eL; have HOK := Lib.hid ho
  clear hAI h ho hrL
  obtain ⟨pw, pwin, pfuel, pregs, pmems, labels, ins⟩ := p
  simp only at HAI hcI hfew HRL HEL hcL
  generalize hT : Pg.bodyG labels labels 0 ins = TG at *
  have HTG := Lib.hid hT
  clear hT
  have eL' := HEL.out
  subst eL'
  clear HEL eL
  go_enter Tryd.func48, Tryd.ntmps48
  go_wp2_with fail
  have hbox0 : (w.alloc (.cells (PrA ⟨pw, pwin, pfuel, pregs, pmems, labels, ins⟩ vM (.slice AL labels.length cL) (.slice AI ins.length cI)) 29)).heap[w.heap.size]? = some (.cells (PrA ⟨pw, pwin, pfuel, pregs, pmems, labels, ins⟩ vM (.slice AL labels.length cL) (.slice AI ins.length cI)) 29 (0, 0)) := heap_alloc_new w _
  have hb0' : Below w.heap.size w (w.alloc (.cells (PrA ⟨pw, pwin, pfuel, pregs, pmems, labels, ins⟩ vM (.slice AL labels.length cL) (.slice AI ins.length cI)) 29)) := upA (up0 w) _
  have hz0' : (w.alloc (.cells (PrA ⟨pw, pwin, pfuel, pregs, pmems, labels, ins⟩ vM (.slice AL labels.length cL) (.slice AI ins.length cI)) 29)).heap.size = w.heap.size + 1 := by simp
  generalize w.alloc (.cells (PrA ⟨pw, pwin, pfuel, pregs, pmems, labels, ins⟩ vM (.slice AL labels.length cL) (.slice AI ins.length cI)) 29) = W1 at *
  have HB0 := Lib.hid hb0'; have HBOX := Lib.hid hbox0
  clear hb0' hbox0
  go_loopw [3, 4, 14] (fun v3 v4 v14 wr => ∃ (n : Nat) (acc : List Sy.It) (rest : List Pg.Lb), v14 = .int .i64 (n : Int) ∧ n ≤ ins.length ∧ IRow wr (w.heap.size + 1) v3 acc ∧ RowV labC 2 w v4 rest ∧ acc.length + rest.length ≤ labels.length + n ∧ acc ++ Pg.bodyG labels rest n (ins.drop n) = TG ∧ Below W1.heap.size W1 wr) (fun _ _ v14 _ => ins.length - (intOf v14).toNat)
  case atStart => exact ⟨0, [], labels, rfl, Nat.zero_le _, World.ownsRow_nil _ _ _ _, HRL.out, by simp, by simpa using HTG.out, up0 _⟩
  case round =>
    obtain ⟨n, acc, rest, rfl, hn, hrow, hrest, hlen, htg, hb⟩ := hrel
    by_cases hlt : n < ins.length
    · obtain ⟨g, o, rfl, hg, hc⟩ := HAI.out (by omega)
      obtain ⟨x, hx⟩ : ∃ x, ins[n]? = some x := ⟨ins[n], by simp [hlt]⟩
      have hdr : ins.drop n = x :: ins.drop (n + 1) := by rw [List.drop_eq_getElem_cons hlt]; rw [(List.getElem?_eq_some_iff.1 hx).2]
      have hmem : x ∈ ins := List.mem_of_getElem? hx
      have hokx := HOK.out.ins x hmem
      have hbw := HB0.out.trans (hb.mono (by omega))
      rw [hdr, Pg.bodyG] at htg
      have hrow0 := fun k (hk : k < 9) => (hbw.cell hg).trans (hc n x hx k hk)
      have hro := HRL.out
      obtain ⟨kd, op, d, va, vb, nm, tg⟩ := x
      have q0 : wr.cell? ⟨g, o + n * 9, none⟩ = some (.int .i64 kd) := hrow0 0 (by decide)
      have q1 : wr.cell? ⟨g, o + n * 9 + 1, none⟩ = some (.int .i64 op) := hrow0 1 (by decide)
      have q2 : wr.cell? ⟨g, o + n * 9 + 2, none⟩ = some (.int .i64 d) := hrow0 2 (by decide)
      have q3 : wr.cell? ⟨g, o + n * 9 + 3, none⟩ = some (.bool va.reg) := hrow0 3 (by decide)
      have q4 : wr.cell? ⟨g, o + n * 9 + 4, none⟩ = some (.int .i64 va.n) := hrow0 4 (by decide)
      have q5 : wr.cell? ⟨g, o + n * 9 + 5, none⟩ = some (.bool vb.reg) := hrow0 5 (by decide)
      have q6 : wr.cell? ⟨g, o + n * 9 + 6, none⟩ = some (.int .i64 vb.n) := hrow0 6 (by decide)
      have q7 : wr.cell? ⟨g, o + n * 9 + 7, none⟩ = some (.string (strOfNums nm)) := hrow0 7 (by decide)
      have q8 : wr.cell? ⟨g, o + n * 9 + 8, none⟩ = some (.int .i64 tg) := hrow0 8 (by decide)
      have HROW := Lib.hid hrow; have HREST := Lib.hid hrest; have HLEN := Lib.hid hlen; have HTG2 := Lib.hid htg; have HB := Lib.hid hb; have HOKX := Lib.hid hokx; have HDR := Lib.hid hdr
      clear hrow hrest hlen htg hb hokx hdr hrow0 hbw hc hro hmem
      have hlt' : (n : Int) < (ins.length : Int) := by omega
      go_wp2_with fail
      have hbx : (wr.alloc (.cells (InsC kd op d va vb (strOfNums nm) tg) 42)).heap[wr.heap.size]? = some (.cells (InsC kd op d va vb (strOfNums nm) tg) 42 (0, 0)) := heap_alloc_new wr _
      have hb1 : Below W1.heap.size W1 (wr.alloc (.cells (InsC kd op d va vb (strOfNums nm) tg) 42)) := upA HB.out _
      have hgs : W1.heap.size ≤ wr.heap.size := HB.out.size
      have hrw1 := HROW.out.alloc (.cells (InsC kd op d va vb (strOfNums nm) tg) 42)
      generalize wr.alloc (.cells (InsC kd op d va vb (strOfNums nm) tg) 42) = W2 at *
      clear q0 q1 q2 q3 q4 q5 q6 q7 q8
      generalize wr.heap.size = GS at *
      have HBX := Lib.hid hbx; have HB1 := Lib.hid hb1; have HRW1 := Lib.hid hrw1
      clear hbx hb1 hrw1
      go_loopw [3, 4] (fun v3 v4 w2 => ∃ (ac : List Sy.It) (re : List Pg.Lb), IRow w2 (w.heap.size + 1) v3 ac ∧ RowV labC 2 w v4 re ∧ ac.length + re.length ≤ labels.length + n ∧ ac ++ ((re.takeWhile (fun l => decide (l.at_ ≤ (n : Int)))).map Pg.labI ++ Pg.insI labels ⟨kd, op, d, va, vb, nm, tg⟩ :: Pg.bodyG labels (re.dropWhile (fun l => decide (l.at_ ≤ (n : Int)))) ((n : Int) + 1) (ins.drop (n + 1))) = TG ∧ w2.heap[GS]? = some (.cells (InsC kd op d va vb (strOfNums nm) tg) 42 (0, 0)) ∧ Below W1.heap.size W1 w2) (fun _ v4 _ => vLen v4)
      case atStart => exact ⟨acc, rest, HRW1.out, HREST.out, HLEN.out, HTG2.out, HBX.out, HB1.out⟩
      case round =>
        obtain ⟨ac, re, hrow, hre, hlen, htg, hbx, hb⟩ := hrel
        have hbw := HB0.out.trans (hb.mono (by omega))
        have HROW2 := Lib.hid hrow; have HLEN2 := Lib.hid hlen; have HTG3 := Lib.hid htg; have HBX2 := Lib.hid hbx; have HB2 := Lib.hid hb; have HBW := Lib.hid hbw
        clear hrow hlen htg hbx hb hbw
        cases re with
        | nil =>
          obtain ⟨A2, c2, rfl, _, _, _⟩ := id hre
          simp only [List.length_nil] at hre
          have htgE : ac ++ (Pg.insI labels ⟨kd, op, d, va, vb, nm, tg⟩ :: Pg.bodyG labels [] ((n : Int) + 1) (ins.drop (n + 1))) = TG := by
            have := HTG3.out
            simpa using this
          have HTGE := Lib.hid htgE; have HREE := Lib.hid hre
          clear htgE hre
          cases hgo : Pg.goes ⟨kd, op, d, va, vb, nm, tg⟩ with
          | false =>
            have hgc := fun w => goes_any ⟨kd, op, d, va, vb, nm, tg⟩ w
            rw [hgo] at hgc
            have hins : Pg.insI labels ⟨kd, op, d, va, vb, nm, tg⟩ = ⟨7, 0, false, [], ⟨kd, op, d, va, vb, nm, tg⟩⟩ := by
              unfold Pg.insI Pg.named
              rw [hgo]
              rfl
            have HG := Lib.hid hgc; have HINS := Lib.hid hins
            clear hgc hgo hins
            have hbx := HBX2.out
            have z0 : wr.cell? ⟨GS, 0, none⟩ = some (.int .i64 kd) := cell_of_row _ _ 0 _ _ _ hbx
            have z1 : wr.cell? ⟨GS, 1, none⟩ = some (.int .i64 op) := cell_of_row _ _ 1 _ _ _ hbx
            have z2 : wr.cell? ⟨GS, 2, none⟩ = some (.int .i64 d) := cell_of_row _ _ 2 _ _ _ hbx
            have z3 : wr.cell? ⟨GS, 3, none⟩ = some (.bool va.reg) := cell_of_row _ _ 3 _ _ _ hbx
            have z4 : wr.cell? ⟨GS, 4, none⟩ = some (.int .i64 va.n) := cell_of_row _ _ 4 _ _ _ hbx
            have z5 : wr.cell? ⟨GS, 5, none⟩ = some (.bool vb.reg) := cell_of_row _ _ 5 _ _ _ hbx
            have z6 : wr.cell? ⟨GS, 6, none⟩ = some (.int .i64 vb.n) := cell_of_row _ _ 6 _ _ _ hbx
            have z7 : wr.cell? ⟨GS, 7, none⟩ = some (.string (strOfNums nm)) := cell_of_row _ _ 7 _ _ _ hbx
            have z8 : wr.cell? ⟨GS, 8, none⟩ = some (.int .i64 tg) := cell_of_row _ _ 8 _ _ _ hbx
            clear hbx
            go_wp2_with first
              | (go_at_call 30
                 refine (HG.out _).mono ?_
                 intro e w4 hp4
                 obtain ⟨rfl, hb4⟩ := hp4
                 have hbx4 : w4.heap[GS]? = some (.cells (InsC kd op d va vb (strOfNums nm) tg) 42 (0, 0)) := (hb4.block _ (Array.getElem?_eq_some_iff.1 HBX2.out).1).trans HBX2.out
                 clear z0 z1 z2 z3 z4 z5 z6 z7 z8
                 have z0 : w4.cell? ⟨GS, 0, none⟩ = some (.int .i64 kd) := cell_of_row _ _ 0 _ _ _ hbx4
                 have z1 : w4.cell? ⟨GS, 1, none⟩ = some (.int .i64 op) := cell_of_row _ _ 1 _ _ _ hbx4
                 have z2 : w4.cell? ⟨GS, 2, none⟩ = some (.int .i64 d) := cell_of_row _ _ 2 _ _ _ hbx4
                 have z3 : w4.cell? ⟨GS, 3, none⟩ = some (.bool va.reg) := cell_of_row _ _ 3 _ _ _ hbx4
                 have z4 : w4.cell? ⟨GS, 4, none⟩ = some (.int .i64 va.n) := cell_of_row _ _ 4 _ _ _ hbx4
                 have z5 : w4.cell? ⟨GS, 5, none⟩ = some (.bool vb.reg) := cell_of_row _ _ 5 _ _ _ hbx4
                 have z6 : w4.cell? ⟨GS, 6, none⟩ = some (.int .i64 vb.n) := cell_of_row _ _ 6 _ _ _ hbx4
                 have z7 : w4.cell? ⟨GS, 7, none⟩ = some (.string (strOfNums nm)) := cell_of_row _ _ 7 _ _ _ hbx4
                 have z8 : w4.cell? ⟨GS, 8, none⟩ = some (.int .i64 tg) := cell_of_row _ _ 8 _ _ _ hbx4
                 clear hbx4
                 have hrw2 := own_belowT HROW2.out hb4)
              | (at_builtin; go_loud (refine wp_appE _ rfl (.tmp 49) (.tmp 52) _ rfl (w.heap.size + 1) 55 i0 _ 13 120 Tryd.underlying86 hi0 hz0 hs0 hb0 rfl (by omega) _ _ _ rfl hrw2 _ (itL ⟨7, 0, false, [], ⟨kd, op, d, va, vb, nm, tg⟩⟩) rfl rfl (itL_one _) _ rfl rfl (by have := HLEN2.out; omega) (by omega) (by have := HB2.out.size; have := hb4.size; omega) ?_; intro v5 w5 hown5 hb5 hsz5 hkp5))
            have hap := irow_snoc hown5
            rw [← HINS.out] at hap
            refine ⟨⟨n + 1, _, _, by simp, by omega, hap, HREE.out, ?_, ?_, (HB2.out.trans (hb4.mono HB2.out.size)).trans (hb5.mono (by omega))⟩, by simp [intOf]; omega⟩
            · have := HLEN2.out
              simp only [List.length_append, List.length_cons, List.length_nil] at this ⊢
              omega
            · have := HTGE.out
              rw [List.append_assoc]
              simpa using this
          | true =>
            have hgc := fun w => goes_any ⟨kd, op, d, va, vb, nm, tg⟩ w
            rw [hgo] at hgc
            have hins : Pg.insI labels ⟨kd, op, d, va, vb, nm, tg⟩ = ⟨7, 0, false, [], ⟨kd, op, d, va, vb, Pg.labelAt tg labels, 0⟩⟩ := by
              unfold Pg.insI Pg.named
              rw [hgo]
              rfl
            have HG := Lib.hid hgc; have HINS := Lib.hid hins
            clear hgc hgo hins
            have hbx := HBX2.out
            have z0 : wr.cell? ⟨GS, 0, none⟩ = some (.int .i64 kd) := cell_of_row _ _ 0 _ _ _ hbx
            have z1 : wr.cell? ⟨GS, 1, none⟩ = some (.int .i64 op) := cell_of_row _ _ 1 _ _ _ hbx
            have z2 : wr.cell? ⟨GS, 2, none⟩ = some (.int .i64 d) := cell_of_row _ _ 2 _ _ _ hbx
            have z3 : wr.cell? ⟨GS, 3, none⟩ = some (.bool va.reg) := cell_of_row _ _ 3 _ _ _ hbx
            have z4 : wr.cell? ⟨GS, 4, none⟩ = some (.int .i64 va.n) := cell_of_row _ _ 4 _ _ _ hbx
            have z5 : wr.cell? ⟨GS, 5, none⟩ = some (.bool vb.reg) := cell_of_row _ _ 5 _ _ _ hbx
            have z6 : wr.cell? ⟨GS, 6, none⟩ = some (.int .i64 vb.n) := cell_of_row _ _ 6 _ _ _ hbx
            have z7 : wr.cell? ⟨GS, 7, none⟩ = some (.string (strOfNums nm)) := cell_of_row _ _ 7 _ _ _ hbx
            have z8 : wr.cell? ⟨GS, 8, none⟩ = some (.int .i64 tg) := cell_of_row _ _ 8 _ _ _ hbx
            clear hbx
            go_wp2_with first
              | (go_at_call 30
                 refine (HG.out _).mono ?_
                 intro e w4 hp4
                 obtain ⟨rfl, hb4⟩ := hp4
                 have hbx4 : w4.heap[GS]? = some (.cells (InsC kd op d va vb (strOfNums nm) tg) 42 (0, 0)) := (hb4.block _ (Array.getElem?_eq_some_iff.1 HBX2.out).1).trans HBX2.out
                 clear z0 z1 z2 z3 z4 z5 z6 z7 z8
                 have hb24 : Below W1.heap.size W1 w4 := HB2.out.trans (hb4.mono HB2.out.size)
                 have c8 : w4.cell? ⟨w.heap.size, 8, none⟩ = some (.slice AL labels.length cL) := cell_of_row _ _ 8 _ _ _ ((hb24.block _ (by omega)).trans HBOX.out)
                 have z8 : w4.cell? ⟨GS, 8, none⟩ = some (.int .i64 tg) := cell_of_row _ _ 8 _ _ _ hbx4
                 have HLA := Lib.hid (labelAt_any (.slice AL labels.length cL) labels tg w4 (HRL.out.up (HBW.out.trans (hb4.mono HBW.out.size))) HOKX.out.1.2.2.2.2.2 (by omega))
                 have HRW4 := Lib.hid (own_belowT HROW2.out hb4)
                 have HBX4 := Lib.hid hbx4
                 have HB24 := Lib.hid hb24
                 clear hbx4 hb24)
              | (go_at_call 63
                 refine HLA.out.mono ?_
                 intro e w5 hp5
                 obtain ⟨rfl, hb5⟩ := hp5
                 have hbx5 : w5.heap[GS]? = some (.cells (InsC kd op d va vb (strOfNums nm) tg) 42 (0, 0)) := (hb5.block _ (Array.getElem?_eq_some_iff.1 HBX4.out).1).trans HBX4.out
                 have hbx6 := cells_setB (cells_setB hbx5 7 (.string (strOfNums (Pg.labelAt tg labels)))) 8 (.int .i64 0)
                 have HBX5 := Lib.hid hbx5
                 clear z8 c8
                 have z0 : w5.cell? ⟨GS, 0, none⟩ = some (.int .i64 kd) := cell_of_row _ _ 0 _ _ _ hbx5
                 have z1 : w5.cell? ⟨GS, 1, none⟩ = some (.int .i64 op) := cell_of_row _ _ 1 _ _ _ hbx5
                 have z2 : w5.cell? ⟨GS, 2, none⟩ = some (.int .i64 d) := cell_of_row _ _ 2 _ _ _ hbx5
                 have z3 : w5.cell? ⟨GS, 3, none⟩ = some (.bool va.reg) := cell_of_row _ _ 3 _ _ _ hbx5
                 have z4 : w5.cell? ⟨GS, 4, none⟩ = some (.int .i64 va.n) := cell_of_row _ _ 4 _ _ _ hbx5
                 have z5 : w5.cell? ⟨GS, 5, none⟩ = some (.bool vb.reg) := cell_of_row _ _ 5 _ _ _ hbx5
                 have z6 : w5.cell? ⟨GS, 6, none⟩ = some (.int .i64 vb.n) := cell_of_row _ _ 6 _ _ _ hbx5
                 have z7 : w5.cell? ⟨GS, 7, none⟩ = some (.string (strOfNums nm)) := cell_of_row _ _ 7 _ _ _ hbx5
                 have z8 : w5.cell? ⟨GS, 8, none⟩ = some (.int .i64 tg) := cell_of_row _ _ 8 _ _ _ hbx5
                 have x0 : ((w5.setCell ⟨GS, 7, none⟩ (.string (strOfNums (Pg.labelAt tg labels)))).setCell ⟨GS, 8, none⟩ (.int .i64 0)).cell? ⟨GS, 0, none⟩ = some (.int .i64 kd) := cell_of_row _ _ 0 _ _ _ hbx6
                 have x1 : ((w5.setCell ⟨GS, 7, none⟩ (.string (strOfNums (Pg.labelAt tg labels)))).setCell ⟨GS, 8, none⟩ (.int .i64 0)).cell? ⟨GS, 1, none⟩ = some (.int .i64 op) := cell_of_row _ _ 1 _ _ _ hbx6
                 have x2 : ((w5.setCell ⟨GS, 7, none⟩ (.string (strOfNums (Pg.labelAt tg labels)))).setCell ⟨GS, 8, none⟩ (.int .i64 0)).cell? ⟨GS, 2, none⟩ = some (.int .i64 d) := cell_of_row _ _ 2 _ _ _ hbx6
                 have x3 : ((w5.setCell ⟨GS, 7, none⟩ (.string (strOfNums (Pg.labelAt tg labels)))).setCell ⟨GS, 8, none⟩ (.int .i64 0)).cell? ⟨GS, 3, none⟩ = some (.bool va.reg) := cell_of_row _ _ 3 _ _ _ hbx6
                 have x4 : ((w5.setCell ⟨GS, 7, none⟩ (.string (strOfNums (Pg.labelAt tg labels)))).setCell ⟨GS, 8, none⟩ (.int .i64 0)).cell? ⟨GS, 4, none⟩ = some (.int .i64 va.n) := cell_of_row _ _ 4 _ _ _ hbx6
                 have x5 : ((w5.setCell ⟨GS, 7, none⟩ (.string (strOfNums (Pg.labelAt tg labels)))).setCell ⟨GS, 8, none⟩ (.int .i64 0)).cell? ⟨GS, 5, none⟩ = some (.bool vb.reg) := cell_of_row _ _ 5 _ _ _ hbx6
                 have x6 : ((w5.setCell ⟨GS, 7, none⟩ (.string (strOfNums (Pg.labelAt tg labels)))).setCell ⟨GS, 8, none⟩ (.int .i64 0)).cell? ⟨GS, 6, none⟩ = some (.int .i64 vb.n) := cell_of_row _ _ 6 _ _ _ hbx6
                 have x7 : ((w5.setCell ⟨GS, 7, none⟩ (.string (strOfNums (Pg.labelAt tg labels)))).setCell ⟨GS, 8, none⟩ (.int .i64 0)).cell? ⟨GS, 7, none⟩ = some (.string (strOfNums (Pg.labelAt tg labels))) := cell_of_row _ _ 7 _ _ _ hbx6
                 have x8 : ((w5.setCell ⟨GS, 7, none⟩ (.string (strOfNums (Pg.labelAt tg labels)))).setCell ⟨GS, 8, none⟩ (.int .i64 0)).cell? ⟨GS, 8, none⟩ = some (.int .i64 0) := cell_of_row _ _ 8 _ _ _ hbx6
                 have hfz7 : w5.frozen? ⟨GS, 7, none⟩ = false := frozen_of_row _ _ 7 _ _ hbx5
                 have hfz8 : w5.frozen? ⟨GS, 8, none⟩ = false := frozen_of_row _ _ 8 _ _ hbx5
                 clear hbx5 hbx6
                 have hfr : Fr (fun k => k = GS) w5 ((w5.setCell ⟨GS, 7, none⟩ (.string (strOfNums (Pg.labelAt tg labels)))).setCell ⟨GS, 8, none⟩ (.int .i64 0)) := (Fr.setCell (p := ⟨GS, 7, none⟩) _).trans (Fr.setCell (p := ⟨GS, 8, none⟩) _) (fun x hx => .inl hx)
                 have hrw6 := own_frm (own_belowT HRW4.out hb5) hfr (fun k hk e => ownm_ne_cells (own_lower (own_belowT HRW4.out hb5) (Nat.zero_le _)) HBX5.out (by decide) (by rw [hk, e]))
                 have HFR := Lib.hid hfr
                 clear hfr)
              | (at_builtin; go_loud (refine wp_appE _ rfl (.tmp 49) (.tmp 52) _ rfl (w.heap.size + 1) 55 i0 _ 13 120 Tryd.underlying86 hi0 hz0 hs0 hb0 rfl (by omega) _ _ _ rfl hrw6 _ (itL ⟨7, 0, false, [], ⟨kd, op, d, va, vb, Pg.labelAt tg labels, 0⟩⟩) rfl rfl (itL_one _) w5.heap.size (by simp) rfl (by have := HLEN2.out; omega) (by omega) (by have := HB24.out.size; have := hb5.size; have := HFR.out.size; omega) ?_; intro v7 w7 hown7 hb7 hsz7 hkp7))
            have hap := irow_snoc hown7
            rw [← HINS.out] at hap
            have hb6 := HFR.out.below (B := W1.heap.size) (fun k hk => by subst hk; exact hgs) (by have := HB24.out.size; have := hb5.size; omega)
            refine ⟨⟨n + 1, _, _, by simp, by omega, hap, HREE.out, ?_, ?_, ((HB24.out.trans (hb5.mono HB24.out.size)).trans hb6).trans (hb7.mono (by omega))⟩, by simp [intOf]; omega⟩
            · have := HLEN2.out
              simp only [List.length_append, List.length_cons, List.length_nil] at this ⊢
              omega
            · have := HTGE.out
              rw [List.append_assoc]
              simpa using this
        | cons y re =>
          obtain ⟨A2, c2, rfl, hcc, hcm, _⟩ := id hre
          obtain ⟨g2, o2, rfl, hg2, hcl, hnx⟩ := RowV.tail hre
          obtain ⟨ynm, yat⟩ := y
          have p0 : wr.cell? ⟨g2, o2, none⟩ = some (.string (strOfNums ynm)) := (HBW.out.cell hg2).trans (hcl 0 (by decide))
          have p1 : wr.cell? ⟨g2, o2 + 1, none⟩ = some (.int .i64 yat) := (HBW.out.cell hg2).trans (hcl 1 (by decide))
          have HNX := Lib.hid hnx
          clear hnx hcl
          simp only [List.length_cons] at hre hcc
          have hgt : (0 : Int) < (re.length : Int) + 1 := by omega
          have hgt2 : (0 : Int) < ((re.length + 1 : Nat) : Int) := by omega
          by_cases hle : yat ≤ (n : Int)
          · have HRE := Lib.hid hre; have HLE := Lib.hid hle
            clear hre
            have hrw := HROW2.out
            go_wp2_with (at_builtin; go_loud (refine wp_appE _ rfl (.tmp 30) (.tmp 36) _ rfl (w.heap.size + 1) 55 i0 _ 13 120 Tryd.underlying86 hi0 hz0 hs0 hb0 rfl (by omega) _ _ _ rfl hrw _ (itL ⟨6, 0, false, ynm, Sy.i0⟩) rfl rfl (itL_one _) _ rfl rfl (by have := HLEN2.out; simp only [List.length_cons] at this; omega) (by omega) (by have := HB2.out.size; omega) ?_; intro v5 w5 hown5 hb5 hsz5 hkp5))
            have hap := irow_snoc hown5
            have hbx5 : w5.heap[GS]? = some (.cells (InsC kd op d va vb (strOfNums nm) tg) 42 (0, 0)) := (hkp5 GS (Array.getElem?_eq_some_iff.1 HBX2.out).1 (fun e => ownm_ne_cells (own_lower HROW2.out (Nat.zero_le _)) HBX2.out (by decide) e)).trans HBX2.out
            have hle3 : decide (yat ≤ (n : Int)) = true := by simpa using HLE.out
            refine ⟨⟨ac ++ [Pg.labI ⟨ynm, yat⟩], re, hap, HNX.out _ rfl, ?_, ?_, hbx5, HB2.out.trans (hb5.mono (by have := HB2.out.size; omega))⟩, by simp [vLen]⟩
            · have := HLEN2.out
              simp only [List.length_append, List.length_cons, List.length_nil] at this ⊢
              omega
            · have := HTG3.out
              rw [List.takeWhile_cons_of_pos (by exact hle3), List.dropWhile_cons_of_pos (by exact hle3)] at this
              rw [List.append_assoc]
              simpa using this
          · have hle2 : ¬ yat ≤ (n : Int) := hle
            have htgE : ac ++ (Pg.insI labels ⟨kd, op, d, va, vb, nm, tg⟩ :: Pg.bodyG labels (⟨ynm, yat⟩ :: re) ((n : Int) + 1) (ins.drop (n + 1))) = TG := by
              have := HTG3.out
              simpa [hle2] using this
            have HTGE := Lib.hid htgE; have HREE := Lib.hid hre
            clear htgE hre
            cases hgo : Pg.goes ⟨kd, op, d, va, vb, nm, tg⟩ with
            | false =>
              have hgc := fun w => goes_any ⟨kd, op, d, va, vb, nm, tg⟩ w
              rw [hgo] at hgc
              have hins : Pg.insI labels ⟨kd, op, d, va, vb, nm, tg⟩ = ⟨7, 0, false, [], ⟨kd, op, d, va, vb, nm, tg⟩⟩ := by
                unfold Pg.insI Pg.named
                rw [hgo]
                rfl
              have HG := Lib.hid hgc; have HINS := Lib.hid hins
              clear hgc hgo hins
              have hbx := HBX2.out
              have z0 : wr.cell? ⟨GS, 0, none⟩ = some (.int .i64 kd) := cell_of_row _ _ 0 _ _ _ hbx
              have z1 : wr.cell? ⟨GS, 1, none⟩ = some (.int .i64 op) := cell_of_row _ _ 1 _ _ _ hbx
              have z2 : wr.cell? ⟨GS, 2, none⟩ = some (.int .i64 d) := cell_of_row _ _ 2 _ _ _ hbx
              have z3 : wr.cell? ⟨GS, 3, none⟩ = some (.bool va.reg) := cell_of_row _ _ 3 _ _ _ hbx
              have z4 : wr.cell? ⟨GS, 4, none⟩ = some (.int .i64 va.n) := cell_of_row _ _ 4 _ _ _ hbx
              have z5 : wr.cell? ⟨GS, 5, none⟩ = some (.bool vb.reg) := cell_of_row _ _ 5 _ _ _ hbx
              have z6 : wr.cell? ⟨GS, 6, none⟩ = some (.int .i64 vb.n) := cell_of_row _ _ 6 _ _ _ hbx
              have z7 : wr.cell? ⟨GS, 7, none⟩ = some (.string (strOfNums nm)) := cell_of_row _ _ 7 _ _ _ hbx
              have z8 : wr.cell? ⟨GS, 8, none⟩ = some (.int .i64 tg) := cell_of_row _ _ 8 _ _ _ hbx
              clear hbx
              go_wp2_with first
                | (go_at_call 30
                   refine (HG.out _).mono ?_
                   intro e w4 hp4
                   obtain ⟨rfl, hb4⟩ := hp4
                   have hbx4 : w4.heap[GS]? = some (.cells (InsC kd op d va vb (strOfNums nm) tg) 42 (0, 0)) := (hb4.block _ (Array.getElem?_eq_some_iff.1 HBX2.out).1).trans HBX2.out
                   clear z0 z1 z2 z3 z4 z5 z6 z7 z8
                   have z0 : w4.cell? ⟨GS, 0, none⟩ = some (.int .i64 kd) := cell_of_row _ _ 0 _ _ _ hbx4
                   have z1 : w4.cell? ⟨GS, 1, none⟩ = some (.int .i64 op) := cell_of_row _ _ 1 _ _ _ hbx4
                   have z2 : w4.cell? ⟨GS, 2, none⟩ = some (.int .i64 d) := cell_of_row _ _ 2 _ _ _ hbx4
                   have z3 : w4.cell? ⟨GS, 3, none⟩ = some (.bool va.reg) := cell_of_row _ _ 3 _ _ _ hbx4
                   have z4 : w4.cell? ⟨GS, 4, none⟩ = some (.int .i64 va.n) := cell_of_row _ _ 4 _ _ _ hbx4
                   have z5 : w4.cell? ⟨GS, 5, none⟩ = some (.bool vb.reg) := cell_of_row _ _ 5 _ _ _ hbx4
                   have z6 : w4.cell? ⟨GS, 6, none⟩ = some (.int .i64 vb.n) := cell_of_row _ _ 6 _ _ _ hbx4
                   have z7 : w4.cell? ⟨GS, 7, none⟩ = some (.string (strOfNums nm)) := cell_of_row _ _ 7 _ _ _ hbx4
                   have z8 : w4.cell? ⟨GS, 8, none⟩ = some (.int .i64 tg) := cell_of_row _ _ 8 _ _ _ hbx4
                   clear hbx4
                   have hrw2 := own_belowT HROW2.out hb4)
                | (at_builtin; go_loud (refine wp_appE _ rfl (.tmp 49) (.tmp 52) _ rfl (w.heap.size + 1) 55 i0 _ 13 120 Tryd.underlying86 hi0 hz0 hs0 hb0 rfl (by omega) _ _ _ rfl hrw2 _ (itL ⟨7, 0, false, [], ⟨kd, op, d, va, vb, nm, tg⟩⟩) rfl rfl (itL_one _) _ rfl rfl (by have := HLEN2.out; omega) (by omega) (by have := HB2.out.size; have := hb4.size; omega) ?_; intro v5 w5 hown5 hb5 hsz5 hkp5))
              have hap := irow_snoc hown5
              rw [← HINS.out] at hap
              refine ⟨⟨n + 1, _, _, by simp, by omega, hap, HREE.out, ?_, ?_, (HB2.out.trans (hb4.mono HB2.out.size)).trans (hb5.mono (by omega))⟩, by simp [intOf]; omega⟩
              · have := HLEN2.out
                simp only [List.length_append, List.length_cons, List.length_nil] at this ⊢
                omega
              · have := HTGE.out
                rw [List.append_assoc]
                simpa using this
            | true =>
              have hgc := fun w => goes_any ⟨kd, op, d, va, vb, nm, tg⟩ w
              rw [hgo] at hgc
              have hins : Pg.insI labels ⟨kd, op, d, va, vb, nm, tg⟩ = ⟨7, 0, false, [], ⟨kd, op, d, va, vb, Pg.labelAt tg labels, 0⟩⟩ := by
                unfold Pg.insI Pg.named
                rw [hgo]
                rfl
              have HG := Lib.hid hgc; have HINS := Lib.hid hins
              clear hgc hgo hins
              have hbx := HBX2.out
              have z0 : wr.cell? ⟨GS, 0, none⟩ = some (.int .i64 kd) := cell_of_row _ _ 0 _ _ _ hbx
              have z1 : wr.cell? ⟨GS, 1, none⟩ = some (.int .i64 op) := cell_of_row _ _ 1 _ _ _ hbx
              have z2 : wr.cell? ⟨GS, 2, none⟩ = some (.int .i64 d) := cell_of_row _ _ 2 _ _ _ hbx
              have z3 : wr.cell? ⟨GS, 3, none⟩ = some (.bool va.reg) := cell_of_row _ _ 3 _ _ _ hbx
              have z4 : wr.cell? ⟨GS, 4, none⟩ = some (.int .i64 va.n) := cell_of_row _ _ 4 _ _ _ hbx
              have z5 : wr.cell? ⟨GS, 5, none⟩ = some (.bool vb.reg) := cell_of_row _ _ 5 _ _ _ hbx
              have z6 : wr.cell? ⟨GS, 6, none⟩ = some (.int .i64 vb.n) := cell_of_row _ _ 6 _ _ _ hbx
              have z7 : wr.cell? ⟨GS, 7, none⟩ = some (.string (strOfNums nm)) := cell_of_row _ _ 7 _ _ _ hbx
              have z8 : wr.cell? ⟨GS, 8, none⟩ = some (.int .i64 tg) := cell_of_row _ _ 8 _ _ _ hbx
              clear hbx
              go_wp2_with first
                | (go_at_call 30
                   refine (HG.out _).mono ?_
                   intro e w4 hp4
                   obtain ⟨rfl, hb4⟩ := hp4
                   have hbx4 : w4.heap[GS]? = some (.cells (InsC kd op d va vb (strOfNums nm) tg) 42 (0, 0)) := (hb4.block _ (Array.getElem?_eq_some_iff.1 HBX2.out).1).trans HBX2.out
                   clear z0 z1 z2 z3 z4 z5 z6 z7 z8
                   have hb24 : Below W1.heap.size W1 w4 := HB2.out.trans (hb4.mono HB2.out.size)
                   have c8 : w4.cell? ⟨w.heap.size, 8, none⟩ = some (.slice AL labels.length cL) := cell_of_row _ _ 8 _ _ _ ((hb24.block _ (by omega)).trans HBOX.out)
                   have z8 : w4.cell? ⟨GS, 8, none⟩ = some (.int .i64 tg) := cell_of_row _ _ 8 _ _ _ hbx4
                   have HLA := Lib.hid (labelAt_any (.slice AL labels.length cL) labels tg w4 (HRL.out.up (HBW.out.trans (hb4.mono HBW.out.size))) HOKX.out.1.2.2.2.2.2 (by omega))
                   have HRW4 := Lib.hid (own_belowT HROW2.out hb4)
                   have HBX4 := Lib.hid hbx4
                   have HB24 := Lib.hid hb24
                   clear hbx4 hb24)
                | (go_at_call 63
                   refine HLA.out.mono ?_
                   intro e w5 hp5
                   obtain ⟨rfl, hb5⟩ := hp5
                   have hbx5 : w5.heap[GS]? = some (.cells (InsC kd op d va vb (strOfNums nm) tg) 42 (0, 0)) := (hb5.block _ (Array.getElem?_eq_some_iff.1 HBX4.out).1).trans HBX4.out
                   have hbx6 := cells_setB (cells_setB hbx5 7 (.string (strOfNums (Pg.labelAt tg labels)))) 8 (.int .i64 0)
                   have HBX5 := Lib.hid hbx5
                   clear z8 c8
                   have z0 : w5.cell? ⟨GS, 0, none⟩ = some (.int .i64 kd) := cell_of_row _ _ 0 _ _ _ hbx5
                   have z1 : w5.cell? ⟨GS, 1, none⟩ = some (.int .i64 op) := cell_of_row _ _ 1 _ _ _ hbx5
                   have z2 : w5.cell? ⟨GS, 2, none⟩ = some (.int .i64 d) := cell_of_row _ _ 2 _ _ _ hbx5
                   have z3 : w5.cell? ⟨GS, 3, none⟩ = some (.bool va.reg) := cell_of_row _ _ 3 _ _ _ hbx5
                   have z4 : w5.cell? ⟨GS, 4, none⟩ = some (.int .i64 va.n) := cell_of_row _ _ 4 _ _ _ hbx5
                   have z5 : w5.cell? ⟨GS, 5, none⟩ = some (.bool vb.reg) := cell_of_row _ _ 5 _ _ _ hbx5
                   have z6 : w5.cell? ⟨GS, 6, none⟩ = some (.int .i64 vb.n) := cell_of_row _ _ 6 _ _ _ hbx5
                   have z7 : w5.cell? ⟨GS, 7, none⟩ = some (.string (strOfNums nm)) := cell_of_row _ _ 7 _ _ _ hbx5
                   have z8 : w5.cell? ⟨GS, 8, none⟩ = some (.int .i64 tg) := cell_of_row _ _ 8 _ _ _ hbx5
                   have x0 : ((w5.setCell ⟨GS, 7, none⟩ (.string (strOfNums (Pg.labelAt tg labels)))).setCell ⟨GS, 8, none⟩ (.int .i64 0)).cell? ⟨GS, 0, none⟩ = some (.int .i64 kd) := cell_of_row _ _ 0 _ _ _ hbx6
                   have x1 : ((w5.setCell ⟨GS, 7, none⟩ (.string (strOfNums (Pg.labelAt tg labels)))).setCell ⟨GS, 8, none⟩ (.int .i64 0)).cell? ⟨GS, 1, none⟩ = some (.int .i64 op) := cell_of_row _ _ 1 _ _ _ hbx6
                   have x2 : ((w5.setCell ⟨GS, 7, none⟩ (.string (strOfNums (Pg.labelAt tg labels)))).setCell ⟨GS, 8, none⟩ (.int .i64 0)).cell? ⟨GS, 2, none⟩ = some (.int .i64 d) := cell_of_row _ _ 2 _ _ _ hbx6
                   have x3 : ((w5.setCell ⟨GS, 7, none⟩ (.string (strOfNums (Pg.labelAt tg labels)))).setCell ⟨GS, 8, none⟩ (.int .i64 0)).cell? ⟨GS, 3, none⟩ = some (.bool va.reg) := cell_of_row _ _ 3 _ _ _ hbx6
                   have x4 : ((w5.setCell ⟨GS, 7, none⟩ (.string (strOfNums (Pg.labelAt tg labels)))).setCell ⟨GS, 8, none⟩ (.int .i64 0)).cell? ⟨GS, 4, none⟩ = some (.int .i64 va.n) := cell_of_row _ _ 4 _ _ _ hbx6
                   have x5 : ((w5.setCell ⟨GS, 7, none⟩ (.string (strOfNums (Pg.labelAt tg labels)))).setCell ⟨GS, 8, none⟩ (.int .i64 0)).cell? ⟨GS, 5, none⟩ = some (.bool vb.reg) := cell_of_row _ _ 5 _ _ _ hbx6
                   have x6 : ((w5.setCell ⟨GS, 7, none⟩ (.string (strOfNums (Pg.labelAt tg labels)))).setCell ⟨GS, 8, none⟩ (.int .i64 0)).cell? ⟨GS, 6, none⟩ = some (.int .i64 vb.n) := cell_of_row _ _ 6 _ _ _ hbx6
                   have x7 : ((w5.setCell ⟨GS, 7, none⟩ (.string (strOfNums (Pg.labelAt tg labels)))).setCell ⟨GS, 8, none⟩ (.int .i64 0)).cell? ⟨GS, 7, none⟩ = some (.string (strOfNums (Pg.labelAt tg labels))) := cell_of_row _ _ 7 _ _ _ hbx6
                   have x8 : ((w5.setCell ⟨GS, 7, none⟩ (.string (strOfNums (Pg.labelAt tg labels)))).setCell ⟨GS, 8, none⟩ (.int .i64 0)).cell? ⟨GS, 8, none⟩ = some (.int .i64 0) := cell_of_row _ _ 8 _ _ _ hbx6
                   have hfz7 : w5.frozen? ⟨GS, 7, none⟩ = false := frozen_of_row _ _ 7 _ _ hbx5
                   have hfz8 : w5.frozen? ⟨GS, 8, none⟩ = false := frozen_of_row _ _ 8 _ _ hbx5
                   clear hbx5 hbx6
                   have hfr : Fr (fun k => k = GS) w5 ((w5.setCell ⟨GS, 7, none⟩ (.string (strOfNums (Pg.labelAt tg labels)))).setCell ⟨GS, 8, none⟩ (.int .i64 0)) := (Fr.setCell (p := ⟨GS, 7, none⟩) _).trans (Fr.setCell (p := ⟨GS, 8, none⟩) _) (fun x hx => .inl hx)
                   have hrw6 := own_frm (own_belowT HRW4.out hb5) hfr (fun k hk e => ownm_ne_cells (own_lower (own_belowT HRW4.out hb5) (Nat.zero_le _)) HBX5.out (by decide) (by rw [hk, e]))
                   have HFR := Lib.hid hfr
                   clear hfr)
                | (at_builtin; go_loud (refine wp_appE _ rfl (.tmp 49) (.tmp 52) _ rfl (w.heap.size + 1) 55 i0 _ 13 120 Tryd.underlying86 hi0 hz0 hs0 hb0 rfl (by omega) _ _ _ rfl hrw6 _ (itL ⟨7, 0, false, [], ⟨kd, op, d, va, vb, Pg.labelAt tg labels, 0⟩⟩) rfl rfl (itL_one _) w5.heap.size (by simp) rfl (by have := HLEN2.out; omega) (by omega) (by have := HB24.out.size; have := hb5.size; have := HFR.out.size; omega) ?_; intro v7 w7 hown7 hb7 hsz7 hkp7))
              have hap := irow_snoc hown7
              rw [← HINS.out] at hap
              have hb6 := HFR.out.below (B := W1.heap.size) (fun k hk => by subst hk; exact hgs) (by have := HB24.out.size; have := hb5.size; omega)
              refine ⟨⟨n + 1, _, _, by simp, by omega, hap, HREE.out, ?_, ?_, ((HB24.out.trans (hb5.mono HB24.out.size)).trans hb6).trans (hb7.mono (by omega))⟩, by simp [intOf]; omega⟩
              · have := HLEN2.out
                simp only [List.length_append, List.length_cons, List.length_nil] at this ⊢
                omega
              · have := HTGE.out
                rw [List.append_assoc]
                simpa using this
    · have hne : n = ins.length := by omega
      subst hne
      have hdr : ins.drop ins.length = [] := List.drop_eq_nil_of_le (Nat.le_refl _)
      rw [hdr, Pg.bodyG] at htg
      obtain ⟨A2, c2, rfl, hcc, hcm, hre⟩ := hrest
      have hlt' : ¬ (ins.length : Int) < (ins.length : Int) := by omega
      have HROW := Lib.hid hrow; have HRE := Lib.hid hre; have HTG2 := Lib.hid htg; have HB := Lib.hid hb; have HLEN := Lib.hid hlen
      have hrl : rest.length ≤ 2000000 := by omega
      clear hrow hre htg hb hdr hlen
      go_wp2_with fail
      go_loopw [3, 57] (fun v3 v57 w2 => ∃ j : Nat, v57 = .int .i64 (j : Int) ∧ j ≤ rest.length ∧ IRow w2 (w.heap.size + 1) v3 (acc ++ (rest.take j).map Pg.labI) ∧ Below W1.heap.size W1 w2) (fun _ v57 _ => rest.length - (intOf v57).toNat)
      case atStart => exact ⟨0, rfl, Nat.zero_le _, by simpa using HROW.out, HB.out⟩
      case round =>
        obtain ⟨j, rfl, hj, hrow, hb⟩ := hrel
        have hW1 : w.heap.size ≤ W1.heap.size := by omega
        by_cases hlt2 : j < rest.length
        · obtain ⟨g, o, rfl, hg, hc⟩ := HRE.out (by omega)
          obtain ⟨x, hx⟩ : ∃ x, rest[j]? = some x := ⟨rest[j], by simp [hlt2]⟩
          have hbw := HB0.out.trans (hb.mono hW1)
          have y0 : wr.cell? ⟨g, o + j * 2, none⟩ = some (.string (strOfNums x.name)) := (hbw.cell hg).trans (hc j x hx 0 (by decide))
          have y1 : wr.cell? ⟨g, o + j * 2 + 1, none⟩ = some (.int .i64 x.at_) := (hbw.cell hg).trans (hc j x hx 1 (by decide))
          have htk : rest.take (j + 1) = rest.take j ++ [x] := by rw [List.take_add_one, hx]; rfl
          have hlen2 : (acc ++ (rest.take j).map Pg.labI).length ≤ 2000000 := by
            have := HLEN.out
            rw [List.length_append, List.length_map, List.length_take]
            omega
          have HB2 := Lib.hid hb; have HTK := Lib.hid htk; have HL2 := Lib.hid hlen2; have HRW := Lib.hid hrow
          clear hb htk hlen2 hc hbw hrow
          have hlt3 : (j : Int) < (rest.length : Int) := by omega
          obtain ⟨nm, at_⟩ := x
          simp only at y0 y1
          have hrw2 := HRW.out.alloc (.cells #[.string (strOfNums nm), .int .i64 at_] 38)
          go_wp2_with (at_builtin; go_loud (refine wp_appE _ rfl (.tmp 61) (.tmp 65) _ rfl (w.heap.size + 1) 55 i0 _ 13 120 Tryd.underlying86 hi0 hz0 hs0 hb0 rfl (by omega) _ _ _ rfl hrw2 _ (itL ⟨6, 0, false, nm, Sy.i0⟩) rfl rfl (itL_one _) _ (by simp) rfl (by have := HL2.out; omega) (by omega) (by have := HB2.out.size; simp; omega) ?_; intro v4 w4 hown4 hb4 hsz4 hkp4))
          refine ⟨⟨j + 1, by simp, by omega, ?_, ((HB2.out).trans (upA (up0 _) _ |>.mono (by have := HB2.out.size; omega))).trans (hb4.mono (by omega))⟩, by simp [intOf]; omega⟩
          have hap := irow_snoc hown4
          rw [HTK.out, List.map_append, ← List.append_assoc]
          exact hap
        · have hje : j = rest.length := by omega
          subst hje
          have hlt3 : ¬ (rest.length : Int) < (rest.length : Int) := by omega
          have hbw := HB0.out.trans (hb.mono hW1)
          have hrow' := hrow
          rw [List.take_length] at hrow'
          have HRW := Lib.hid hrow'; have HBW := Lib.hid hbw
          clear hrow hrow' hb hbw
          go_wp2_with fail
          go_ret
          refine ⟨_, rfl, own_lower ?_ (Nat.le_succ _), HBW.out⟩
          rw [← HTG2.out]
          exact HRW.out
end Go.Proofs.YtmghklokbmdenaaDoor
