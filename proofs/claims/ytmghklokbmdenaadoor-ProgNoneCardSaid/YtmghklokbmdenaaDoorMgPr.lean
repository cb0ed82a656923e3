/- Merged: PgRow, PgHeads. -/
import Derived.Test.YtmghklokbmdenaaDoorPgPar
set_option linter.unusedVariables false
set_option linter.unusedSimpArgs false
namespace Go.Proofs.YtmghklokbmdenaaDoor
section
open Go.RowKit
section
variable {α : Type} (enc : α → List Value) (m : Nat)
/-- a slice that reads as those structs, m cells each -/
def RowV (w : World) (v : Value) (l : List α) : Prop := ∃ A cap, v = .slice A l.length cap ∧ l.length ≤ cap ∧ cap ≤ maxLen ∧ (0 < l.length → ∃ g o, A = some ⟨g, o, none⟩ ∧ g < w.heap.size ∧ ∀ j a, l[j]? = some a → ∀ k, k < m → w.cell? ⟨g, o + j * m + k, none⟩ = (enc a)[k]?)
end
section
variable {α : Type} {enc : α → List Value} {m : Nat} {w w' : World} {v : Value} {l : List α}
theorem RowV.up (h : RowV enc m w v l) (hb : Below w.heap.size w w') : RowV enc m w' v l := by
  obtain ⟨A, cap, h1, h2, h3, h4⟩ := h
  refine ⟨A, cap, h1, h2, h3, fun hl => ?_⟩
  obtain ⟨g, o, e, hg, hc⟩ := h4 hl
  exact ⟨g, o, e, Nat.lt_of_lt_of_le hg hb.size, fun j a hj k hk => (hb.cell hg).trans (hc j a hj k hk)⟩
theorem own_RowV (hm : ∀ a, (enc a).length = m) (hm0 : 0 < m) {B n : Nat} {e : TypeId} (h : w.ownsRow B e m v n (flt enc l)) : RowV enc m w v l := by
  obtain ⟨g, A, cap, h1, h2, h3, h4, h5⟩ := own_RowR hm hm0 h
  refine ⟨A, cap, h1, h3, h4, fun hl => ⟨g, 0, (h2 hl).1, ?_, fun j a hj k hk => ?_⟩⟩
  · obtain ⟨a, ha⟩ : ∃ a, l[0]? = some a := ⟨l[0], by simp⟩
    exact (h5 0 a ha).1
  · rw [Nat.zero_add]
    exact (h5 j a hj).2 k hk
end
section
variable {P : Program} (w : World)
/-- append of one struct to a row of the call's own -/
theorem wp_appE {ops : Array Oper} {rest : List Oper} {o : Oper} {a : Act} {Q : Exit → Act → World → Prop} (hgd : o.guard = none) (s x : Operand) (t : TypeId)
    (ho : o.op = .call { callee := .builtin .append, args := #[s, x], argTypes := #[t, t] })
    (B : Nat) (e : TypeId) (i : TypeInfo) (z : Value) (m bytes : Nat) (ht : P.underlying t = some (.slice e)) (hi : P.info? e = some i) (hz : i.zero = some z)
    (hsize : i.size = m) (hby : i.bytes = bytes) (hzs : z.cells.size = m) (hm0 : 0 < m)
    (v : Value) (n : Nat) (xs : List Value) (hs : a.eval s = v) (hown : w.ownsRow B e m v n xs)
    (C : Array Value) (news : List Value) (hC : C.toList = news) (hlen : news.length = m) (hone : ∀ u ∈ news, u.oneCell' = true) (G : Nat) (hG : G = w.heap.size) (hx : a.eval x = .slice (some ⟨G, 0, none⟩) 1 1)
    (hn : n + 1 ≤ 1099511627) (hbytes : bytes ≤ 1000) (hbase : B ≤ w.heap.size)
    (h : ∀ v' w', w'.ownsRow B e m v' (n + 1) (xs ++ news) → Below B w w' → w.heap.size ≤ w'.heap.size → (∀ k, k < w.heap.size → v.ownBlock ≠ some k → w'.heap[k]? = w.heap[k]?) → wpList P ops Q rest (a.put o.dst v') w') :
    wpList P ops Q (o :: rest) a (w.alloc (.cells C e)) := by
  subst hG
  have hkeep := 0
  refine wpList_append_own_at (w.alloc (.cells C e)) hgd s x t ho B e i z m bytes ht hi hz hsize hby hzs hm0 v n xs hs (hown.alloc _) ⟨w.heap.size, 0, none⟩ 1 1 news hx (by rw [hlen, Nat.one_mul])
    (fun j u hu => new_cells w C e w.heap.size rfl j u (by rw [hC]; exact hu)) hone (by simp only [maxLen]; omega) ?_ (by simp; omega) fun v' w' h2 h3 _ _ => h v' w' h2 ?_ (Nat.le_trans (by simp) h3.size) (fun k hk hne => (h3.block k (by simp; omega) (fun e => hne e.symm)).trans (heap_alloc_old _ _ hk))
  · have : (n + 1) * bytes ≤ 1099511627 * 1000 := Nat.mul_le_mul hn hbytes
    omega
  · refine ((Below.refl _ _).alloc hbase _).grown h3 (by simp; omega) fun k hk => ((hown.alloc (.cells C e)).lt k hk).1
end
/-- a row just made -/
theorem own_new (W : World) (C : Array Value) (e : TypeId) (m n G : Nat) (hG : G = W.heap.size) (hC : C.size = n * m) (hn : n ≤ 1000000) : (W.alloc (.cells C e)).ownsRow G e m (.slice (some ⟨G, 0, none⟩) n n) n C.toList := by
  subst hG
  refine ⟨by simpa using hC, .inr ⟨W.heap.size, n, C, rfl, Nat.le_refl _, heap_alloc_new W _, Nat.le_refl _, by simp only [maxLen]; omega, hC, ?_⟩⟩
  rw [List.take_of_length_le]
  rw [Array.length_toList, hC]
  exact Nat.le_refl _
def itL (i : Sy.It) : List Value := (ItC i).toList
theorem itL_len (i : Sy.It) : (itL i).length = 13 := rfl
theorem itL_one (i : Sy.It) : ∀ u ∈ itL i, u.oneCell' = true := by
  intro u hu
  simp only [itL, ItC, List.mem_cons, List.not_mem_nil, or_false] at hu
  rcases hu with rfl | rfl | rfl | rfl | rfl | rfl | rfl | rfl | rfl | rfl | rfl | rfl | rfl <;> rfl
theorem infoItm : (Tryd.prog.info? 55).map (fun i => (i.zero, i.size, i.bytes)) = some (some (ItV Sy.t0), 13, 120) := by kernel_rfl
abbrev IRow (w : World) (B : Nat) (v : Value) (l : List Sy.It) : Prop := w.ownsRow B 55 13 v l.length (flt itL l)
/-- it answers a row of items of its own -/
def RowG (l : List Sy.It) (w : World) (e : Ending) (w' : World) : Prop := ∃ v, e = .returned v ∧ IRow w' w.heap.size v l ∧ Below w.heap.size w w'
set_option maxRecDepth 100000 in
set_option maxHeartbeats 8000000 in
theorem labelAt_any (v : Value) (ls : List Pg.Lb) (a : Int) (w : World) (h : RowV labC 2 w v ls) (ha : I64 a) (hl : ls.length ≤ 2000000) : Calls Tryd.prog 63 #[v, .int .i64 a] w (RetB (.string (strOfNums (Pg.labelAt a ls))) w) := by
  obtain ⟨A, cap, rfl, hcap, hmx, hA⟩ := h
  have HA := Lib.hid hA
  clear hA
  go_enter Tryd.func63, Tryd.ntmps63
  go_wp2_with fail
  go_loopw [9] (fun v9 wr => ∃ j : Nat, v9 = .int .i64 (j : Int) ∧ j ≤ ls.length ∧ Pg.labelAt a ls = Pg.labelAt a (ls.drop j) ∧ Below w.heap.size w wr) (fun v9 _ => ls.length - (intOf v9).toNat)
  case atStart => exact ⟨0, rfl, Nat.zero_le _, rfl, up0 w⟩
  case round =>
    obtain ⟨j, rfl, hj, hat, hbw⟩ := hrel
    by_cases hlt : j < ls.length
    · obtain ⟨g, o, rfl, hg, hc⟩ := HA.out (by omega)
      obtain ⟨x, hx⟩ : ∃ x, ls[j]? = some x := ⟨ls[j], by simp [hlt]⟩
      have hd : ls.drop j = x :: ls.drop (j + 1) := by rw [List.drop_eq_getElem_cons hlt]; rw [(List.getElem?_eq_some_iff.1 hx).2]
      have q0 : wr.cell? ⟨g, o + j * 2, none⟩ = some (.string (strOfNums x.name)) := (hbw.cell hg).trans (hc j x hx 0 (by decide))
      have q1 : wr.cell? ⟨g, o + j * 2 + 1, none⟩ = some (.int .i64 x.at_) := (hbw.cell hg).trans (hc j x hx 1 (by decide))
      have HB := Lib.hid hbw; have HAT := Lib.hid hat
      clear hbw hat hc
      have hlt' : (j : Int) < (ls.length : Int) := by omega
      obtain ⟨nm, at_⟩ := x
      simp only at q0 q1
      by_cases he : at_ = a
      · subst he
        go_wp2_with fail
        go_ret
        refine ⟨?_, upA HB.out _⟩
        rw [HAT.out, hd, Pg.labelAt, if_pos rfl]
        exact rfl
      · have de : decide (at_ = a) = false := by simpa using he
        go_wp2_with fail
        refine ⟨⟨j + 1, by simp, by omega, ?_, upA HB.out _⟩, by simp [intOf]; omega⟩
        rw [HAT.out, hd, Pg.labelAt, if_neg he]
    · have hje : ls.drop j = [] := List.drop_eq_nil_of_le (by omega)
      have hlt' : ¬ (j : Int) < (ls.length : Int) := by omega
      have HB := Lib.hid hbw; have HAT := Lib.hid hat
      clear hbw hat
      go_wp2_with fail
      go_ret
      refine ⟨?_, HB.out⟩
      rw [HAT.out, hje]; rfl
end
end Go.Proofs.YtmghklokbmdenaaDoor
namespace Go.Proofs.YtmghklokbmdenaaDoor
section
open Go.RowKit
/-- a program as an argument: its rows read so, its numbers are those of the machine, its names are bytes -/
structure PrIn (w : World) (p : Pg.Pr) (vM vL vI : Value) : Prop where
  rM : RowV memC 3 w vM p.mems
  rL : RowV labC 2 w vL p.labels
  rI : RowV insL 9 w vI p.ins
structure PrOk (p : Pg.Pr) : Prop where
  nums : I64 p.w ∧ I64 p.win ∧ I64 p.fuel
  r4 : p.regs.length = 4
  regs : ∀ r ∈ p.regs, I64 r
  mems : ∀ m ∈ p.mems, I64 m.n ∧ Cd.isB m.name
  labels : ∀ l ∈ p.labels, I64 l.at_ ∧ Cd.isB l.name
  ins : ∀ i ∈ p.ins, (I64 i.kind ∧ I64 i.op ∧ I64 i.d ∧ I64 i.a.n ∧ I64 i.b.n ∧ I64 i.target) ∧ Cd.isB i.name
  few : p.mems.length ≤ 1000 ∧ p.labels.length ≤ 1000000 ∧ p.ins.length ≤ 1000
theorem PrIn.up {w w' : World} {p : Pg.Pr} {vM vL vI : Value} (h : PrIn w p vM vL vI) (hb : Below w.heap.size w w') : PrIn w' p vM vL vI := ⟨h.rM.up hb, h.rL.up hb, h.rI.up hb⟩
theorem Pg.regs_snoc (d : Int) : ∀ (l : List Int) (v : Int), Pg.regs d (l ++ [v]) = Pg.regs d l ++ (if v ≠ 0 then [⟨4, 0, decide (v = 2), [], { Sy.i0 with d := d + l.length }⟩] else [])
  | [], v => by simp [Pg.regs]
  | x :: l, v => by
    have := Pg.regs_snoc (d + 1) l v
    simp only [Pg.regs, List.cons_append, this, List.append_assoc, List.length_cons]
    congr 2
    simp only [Int.natCast_add, Int.natCast_one]
    rw [show d + 1 + (l.length : Int) = d + ((l.length : Int) + 1) by omega]
theorem Pg.regs_len : ∀ (l : List Int) (d : Int), (Pg.regs d l).length ≤ l.length
  | [], d => Nat.le_refl _
  | x :: l, d => by
    have := Pg.regs_len l (d + 1)
    unfold Pg.regs
    rw [List.length_append, List.length_cons]
    split <;> simp <;> omega
set_option maxRecDepth 100000 in
set_option maxHeartbeats 16000000 in
theorem heads_any (p : Pg.Pr) (vM vL vI : Value) (w : World) (h : PrIn w p vM vL vI) (ho : PrOk p) : Calls Tryd.prog 47 #[.agg (PrA p vM vL vI)] w (RowG (Pg.heads p ++ Pg.regs 0 p.regs ++ p.mems.map Pg.memI) w) := by
  obtain ⟨A, cap, rfl, hcap, hmx, hA⟩ := h.rM
  obtain ⟨i0, hi0, hz0, hs0, hb0⟩ := info_parts infoItm
  have hfew := ho.few.1
  obtain ⟨q0, q1, q2, q3, hr⟩ := list4 ho.r4
  have HA := Lib.hid hA
  clear hA h ho
  obtain ⟨pw, pwin, pfuel, pregs, pmems, plabels, pins⟩ := p
  simp only at hr HA hcap hfew
  subst hr
  go_enter Tryd.func47, Tryd.ntmps47
  go_wp2_with fail
  have hbox0 : ((w.alloc (.cells (PrA ⟨pw, pwin, pfuel, [q0, q1, q2, q3], pmems, plabels, pins⟩ (.slice A pmems.length cap) vL vI) 29))).heap[w.heap.size]? = some (.cells (PrA ⟨pw, pwin, pfuel, [q0, q1, q2, q3], pmems, plabels, pins⟩ (.slice A pmems.length cap) vL vI) 29 (0, 0)) := heap_alloc_new w _
  have hb0' : Below w.heap.size w (w.alloc (.cells (PrA ⟨pw, pwin, pfuel, [q0, q1, q2, q3], pmems, plabels, pins⟩ (.slice A pmems.length cap) vL vI) 29)) := upA (up0 w) _
  have hz0' : (w.alloc (.cells (PrA ⟨pw, pwin, pfuel, [q0, q1, q2, q3], pmems, plabels, pins⟩ (.slice A pmems.length cap) vL vI) 29)).heap.size = w.heap.size + 1 := by simp
  generalize w.alloc (.cells (PrA ⟨pw, pwin, pfuel, [q0, q1, q2, q3], pmems, plabels, pins⟩ (.slice A pmems.length cap) vL vI) 29) = W1 at *
  have HB0 := Lib.hid hb0'
  have ix0 : ∀ w, (Instr.index 24 (.agg #[.int .i64 q0, .int .i64 q1, .int .i64 q2, .int .i64 q3]) (.int .i64 0)).run Tryd.prog w = .ok (.int .i64 q0) w := by intro w; kernel_rfl
  have ix1 : ∀ w, (Instr.index 24 (.agg #[.int .i64 q0, .int .i64 q1, .int .i64 q2, .int .i64 q3]) (.int .i64 1)).run Tryd.prog w = .ok (.int .i64 q1) w := by intro w; kernel_rfl
  have ix2 : ∀ w, (Instr.index 24 (.agg #[.int .i64 q0, .int .i64 q1, .int .i64 q2, .int .i64 q3]) (.int .i64 2)).run Tryd.prog w = .ok (.int .i64 q2) w := by intro w; kernel_rfl
  have ix3 : ∀ w, (Instr.index 24 (.agg #[.int .i64 q0, .int .i64 q1, .int .i64 q2, .int .i64 q3]) (.int .i64 3)).run Tryd.prog w = .ok (.int .i64 q3) w := by intro w; kernel_rfl
  clear hb0'
  go_loopw [3, 20] (fun v3 v20 wr => ∃ k : Int, v20 = .int .i64 k ∧ (0 ≤ k ∧ k ≤ 4) ∧ IRow wr (w.heap.size + 1) v3 (Pg.heads ⟨pw, pwin, pfuel, [q0, q1, q2, q3], pmems, plabels, pins⟩ ++ Pg.regs 0 ([q0, q1, q2, q3].take k.toNat)) ∧
    wr.heap[w.heap.size]? = some (.cells (PrA ⟨pw, pwin, pfuel, [q0, q1, q2, q3], pmems, plabels, pins⟩ (.slice A pmems.length cap) vL vI) 29 (0, 0)) ∧ Below W1.heap.size W1 wr) (fun _ v20 _ => 4 - (intOf v20).toNat)
  case atStart =>
    refine ⟨0, rfl, by omega, own_new W1 _ 55 13 3 (w.heap.size + 1) hz0'.symm rfl (by omega), ?_, upA (up0 _) _⟩
    rw [heap_alloc_old _ _ (by omega)]
    exact hbox0
  case round =>
    obtain ⟨k, rfl, hk, hrow, hbx, hb⟩ := hrel
    have hlen : (Pg.heads ⟨pw, pwin, pfuel, [q0, q1, q2, q3], pmems, plabels, pins⟩ ++ Pg.regs 0 ([q0, q1, q2, q3].take k.toNat)).length ≤ 7 := by
      have h1 := Pg.regs_len ([q0, q1, q2, q3].take k.toNat) 0
      have h2 : ([q0, q1, q2, q3].take k.toNat).length ≤ 4 := by rw [List.length_take]; exact Nat.min_le_right _ _
      rw [List.length_append]
      simp only [Pg.heads, List.length_cons, List.length_nil]
      omega
    have HLEN := Lib.hid hlen
    clear hlen
    have HR := Lib.hid hrow; have HBX := Lib.hid hbx; have HB := Lib.hid hb
    clear hrow hbx hb hbox0
    rcases (by omega : k = 0 ∨ k = 1 ∨ k = 2 ∨ k = 3 ∨ k = 4) with rfl | rfl | rfl | rfl | rfl
    · have hbeq : (q0 == 2) = decide (q0 = 2) := rfl
      by_cases hz : q0 = 0
      · have HZ := Lib.hid hz
        have ixz : ∀ w, (Instr.index 24 (.agg #[.int .i64 q0, .int .i64 q1, .int .i64 q2, .int .i64 q3]) (.int .i64 0)).run Tryd.prog w = .ok (.int .i64 0) w := fun w => (ix0 w).trans (by rw [hz])
        clear hz ix0
        go_wp2_with fail
        refine ⟨⟨1, rfl, by omega, ?_, HBX.out, HB.out⟩, by simp [intOf]⟩
        have := HR.out
        simpa [Pg.regs, HZ.out] using this
      · have dz : decide (q0 = 0) = false := by simpa using hz
        have bz : (q0 == 0) = false := by simpa using hz
        have hrow := HR.out
        go_wp2_with (at_builtin; go_loud (refine wp_appE _ rfl (.tmp 26) (.tmp 32) _ rfl (w.heap.size + 1) 55 i0 _ 13 120 Tryd.underlying86 hi0 hz0 hs0 hb0 rfl (by omega) _ _ _ rfl hrow _ (itL ⟨4, 0, decide (q0 = 2), [], { Sy.i0 with d := 0 }⟩) rfl rfl (itL_one _) _ (by simp) rfl (by have := HLEN.out; omega) (by omega) (by have := HB.out.size; omega) ?_; intro v4 w4 hown4 hb4 hsz4 hkp4))
        refine ⟨⟨1, rfl, by omega, ?_, (hb4.block _ (by omega)).trans HBX.out, (HB.out).trans (hb4.mono (by omega))⟩, by simp [intOf]⟩
        have hap := hown4
        rw [← flt_one itL, ← flt_app] at hap
        have e1 : Pg.regs 0 ([q0, q1, q2, q3].take (Int.toNat 1)) = Pg.regs 0 ([q0, q1, q2, q3].take (Int.toNat 0)) ++ [⟨4, 0, decide (q0 = 2), [], { Sy.i0 with d := 0 }⟩] := by
          have := Pg.regs_snoc 0 ([q0, q1, q2, q3].take 0) q0
          rw [if_pos hz] at this
          exact this
        rw [e1, ← List.append_assoc]
        unfold IRow
        rw [List.length_append]
        exact hap
    · have hbeq : (q1 == 2) = decide (q1 = 2) := rfl
      by_cases hz : q1 = 0
      · have HZ := Lib.hid hz
        have ixz : ∀ w, (Instr.index 24 (.agg #[.int .i64 q0, .int .i64 q1, .int .i64 q2, .int .i64 q3]) (.int .i64 1)).run Tryd.prog w = .ok (.int .i64 0) w := fun w => (ix1 w).trans (by rw [hz])
        clear hz ix1
        go_wp2_with fail
        refine ⟨⟨2, rfl, by omega, ?_, HBX.out, HB.out⟩, by simp [intOf]⟩
        have := HR.out
        simpa [Pg.regs, HZ.out] using this
      · have dz : decide (q1 = 0) = false := by simpa using hz
        have bz : (q1 == 0) = false := by simpa using hz
        have hrow := HR.out
        go_wp2_with (at_builtin; go_loud (refine wp_appE _ rfl (.tmp 26) (.tmp 32) _ rfl (w.heap.size + 1) 55 i0 _ 13 120 Tryd.underlying86 hi0 hz0 hs0 hb0 rfl (by omega) _ _ _ rfl hrow _ (itL ⟨4, 0, decide (q1 = 2), [], { Sy.i0 with d := 1 }⟩) rfl rfl (itL_one _) _ (by simp) rfl (by have := HLEN.out; omega) (by omega) (by have := HB.out.size; omega) ?_; intro v4 w4 hown4 hb4 hsz4 hkp4))
        refine ⟨⟨2, rfl, by omega, ?_, (hb4.block _ (by omega)).trans HBX.out, (HB.out).trans (hb4.mono (by omega))⟩, by simp [intOf]⟩
        have hap := hown4
        rw [← flt_one itL, ← flt_app] at hap
        have e1 : Pg.regs 0 ([q0, q1, q2, q3].take (Int.toNat 2)) = Pg.regs 0 ([q0, q1, q2, q3].take (Int.toNat 1)) ++ [⟨4, 0, decide (q1 = 2), [], { Sy.i0 with d := 1 }⟩] := by
          have := Pg.regs_snoc 0 ([q0, q1, q2, q3].take 1) q1
          rw [if_pos hz] at this
          exact this
        rw [e1, ← List.append_assoc]
        unfold IRow
        rw [List.length_append]
        exact hap
    · have hbeq : (q2 == 2) = decide (q2 = 2) := rfl
      by_cases hz : q2 = 0
      · have HZ := Lib.hid hz
        have ixz : ∀ w, (Instr.index 24 (.agg #[.int .i64 q0, .int .i64 q1, .int .i64 q2, .int .i64 q3]) (.int .i64 2)).run Tryd.prog w = .ok (.int .i64 0) w := fun w => (ix2 w).trans (by rw [hz])
        clear hz ix2
        go_wp2_with fail
        refine ⟨⟨3, rfl, by omega, ?_, HBX.out, HB.out⟩, by simp [intOf]⟩
        have := HR.out
        simpa [Pg.regs, HZ.out] using this
      · have dz : decide (q2 = 0) = false := by simpa using hz
        have bz : (q2 == 0) = false := by simpa using hz
        have hrow := HR.out
        go_wp2_with (at_builtin; go_loud (refine wp_appE _ rfl (.tmp 26) (.tmp 32) _ rfl (w.heap.size + 1) 55 i0 _ 13 120 Tryd.underlying86 hi0 hz0 hs0 hb0 rfl (by omega) _ _ _ rfl hrow _ (itL ⟨4, 0, decide (q2 = 2), [], { Sy.i0 with d := 2 }⟩) rfl rfl (itL_one _) _ (by simp) rfl (by have := HLEN.out; omega) (by omega) (by have := HB.out.size; omega) ?_; intro v4 w4 hown4 hb4 hsz4 hkp4))
        refine ⟨⟨3, rfl, by omega, ?_, (hb4.block _ (by omega)).trans HBX.out, (HB.out).trans (hb4.mono (by omega))⟩, by simp [intOf]⟩
        have hap := hown4
        rw [← flt_one itL, ← flt_app] at hap
        have e1 : Pg.regs 0 ([q0, q1, q2, q3].take (Int.toNat 3)) = Pg.regs 0 ([q0, q1, q2, q3].take (Int.toNat 2)) ++ [⟨4, 0, decide (q2 = 2), [], { Sy.i0 with d := 2 }⟩] := by
          have := Pg.regs_snoc 0 ([q0, q1, q2, q3].take 2) q2
          rw [if_pos hz] at this
          exact this
        rw [e1, ← List.append_assoc]
        unfold IRow
        rw [List.length_append]
        exact hap
    · have hbeq : (q3 == 2) = decide (q3 = 2) := rfl
      by_cases hz : q3 = 0
      · have HZ := Lib.hid hz
        have ixz : ∀ w, (Instr.index 24 (.agg #[.int .i64 q0, .int .i64 q1, .int .i64 q2, .int .i64 q3]) (.int .i64 3)).run Tryd.prog w = .ok (.int .i64 0) w := fun w => (ix3 w).trans (by rw [hz])
        clear hz ix3
        go_wp2_with fail
        refine ⟨⟨4, rfl, by omega, ?_, HBX.out, HB.out⟩, by simp [intOf]⟩
        have := HR.out
        simpa [Pg.regs, HZ.out] using this
      · have dz : decide (q3 = 0) = false := by simpa using hz
        have bz : (q3 == 0) = false := by simpa using hz
        have hrow := HR.out
        go_wp2_with (at_builtin; go_loud (refine wp_appE _ rfl (.tmp 26) (.tmp 32) _ rfl (w.heap.size + 1) 55 i0 _ 13 120 Tryd.underlying86 hi0 hz0 hs0 hb0 rfl (by omega) _ _ _ rfl hrow _ (itL ⟨4, 0, decide (q3 = 2), [], { Sy.i0 with d := 3 }⟩) rfl rfl (itL_one _) _ (by simp) rfl (by have := HLEN.out; omega) (by omega) (by have := HB.out.size; omega) ?_; intro v4 w4 hown4 hb4 hsz4 hkp4))
        refine ⟨⟨4, rfl, by omega, ?_, (hb4.block _ (by omega)).trans HBX.out, (HB.out).trans (hb4.mono (by omega))⟩, by simp [intOf]⟩
        have hap := hown4
        rw [← flt_one itL, ← flt_app] at hap
        have e1 : Pg.regs 0 ([q0, q1, q2, q3].take (Int.toNat 4)) = Pg.regs 0 ([q0, q1, q2, q3].take (Int.toNat 3)) ++ [⟨4, 0, decide (q3 = 2), [], { Sy.i0 with d := 3 }⟩] := by
          have := Pg.regs_snoc 0 ([q0, q1, q2, q3].take 3) q3
          rw [if_pos hz] at this
          exact this
        rw [e1, ← List.append_assoc]
        unfold IRow
        rw [List.length_append]
        exact hap
    · have hrow4 := HR.out
      have c7 : wr.cell? ⟨w.heap.size, 7, none⟩ = some (.slice A pmems.length cap) := cell_of_row _ _ 7 _ _ _ HBX.out
      generalize hH : Pg.heads ⟨pw, pwin, pfuel, [q0, q1, q2, q3], pmems, plabels, pins⟩ ++ Pg.regs 0 ([q0, q1, q2, q3].take (Int.toNat 4)) = H at *
      have hH2 : Pg.heads ⟨pw, pwin, pfuel, [q0, q1, q2, q3], pmems, plabels, pins⟩ ++ Pg.regs 0 [q0, q1, q2, q3] = H := hH
      have HH := Lib.hid hH2
      clear hH hH2 ix0 ix1 ix2 ix3 HBX
      go_wp2_with fail
      go_loopw [3, 38] (fun v3 v38 w2 => ∃ j : Nat, v38 = .int .i64 (j : Int) ∧ j ≤ pmems.length ∧ IRow w2 (w.heap.size + 1) v3 (H ++ (pmems.take j).map Pg.memI) ∧ Below W1.heap.size W1 w2) (fun _ v38 _ => pmems.length - (intOf v38).toNat)
      case atStart => exact ⟨0, rfl, Nat.zero_le _, by simpa using hrow4, HB.out⟩
      case round =>
        obtain ⟨j, rfl, hj, hrow, hb⟩ := hrel
        have hW1 : w.heap.size ≤ W1.heap.size := by omega
        by_cases hlt : j < pmems.length
        · obtain ⟨g, o, rfl, hg, hc⟩ := HA.out (by omega)
          obtain ⟨x, hx⟩ : ∃ x, pmems[j]? = some x := ⟨pmems[j], by simp [hlt]⟩
          have hbw := HB0.out.trans (hb.mono hW1)
          have y0 : wr.cell? ⟨g, o + j * 3, none⟩ = some (.string (strOfNums x.name)) := (hbw.cell hg).trans (hc j x hx 0 (by decide))
          have y1 : wr.cell? ⟨g, o + j * 3 + 1, none⟩ = some (.bool x.secret) := (hbw.cell hg).trans (hc j x hx 1 (by decide))
          have y2 : wr.cell? ⟨g, o + j * 3 + 2, none⟩ = some (.int .i64 x.n) := (hbw.cell hg).trans (hc j x hx 2 (by decide))
          have htk : pmems.take (j + 1) = pmems.take j ++ [x] := by rw [List.take_add_one, hx]; rfl
          have hlen2 : (H ++ (pmems.take j).map Pg.memI).length ≤ 2000 := by
            have := HLEN.out
            rw [List.length_append, List.length_map, List.length_take]
            omega
          have HB2 := Lib.hid hb; have HTK := Lib.hid htk; have HL2 := Lib.hid hlen2; have HRW := Lib.hid hrow
          clear hb htk hlen2 hc hbw hrow hrow4
          have hlt' : (j : Int) < (pmems.length : Int) := by omega
          obtain ⟨nm, sec, n⟩ := x
          simp only at y0 y1 y2
          have hrw2 := HRW.out.alloc (.cells #[.string (strOfNums nm), .bool sec, .int .i64 n] 45)
          go_wp2_with (at_builtin; refine wp_appE _ rfl (.tmp 42) (.tmp 50) _ rfl (w.heap.size + 1) 55 i0 _ 13 120 Tryd.underlying86 hi0 hz0 hs0 hb0 rfl (by omega) _ _ _ rfl hrw2 _ (itL (Pg.memI ⟨nm, sec, n⟩)) rfl rfl (itL_one _) _ (by simp) rfl (by have := HL2.out; omega) (by omega) (by have := HB2.out.size; simp; omega) ?_; intro v4 w4 hown4 hb4 hsz4 hkp4)
          refine ⟨⟨j + 1, by simp, by omega, ?_, ((HB2.out).trans (upA (up0 _) _ |>.mono (by have := HB2.out.size; omega))).trans (hb4.mono (by omega))⟩, by simp [intOf]; omega⟩
          have hap := hown4
          rw [← flt_one itL, ← flt_app] at hap
          rw [HTK.out, List.map_append, ← List.append_assoc]
          unfold IRow
          rw [List.length_append]
          exact hap
        · have hje : j = pmems.length := by omega
          subst hje
          have hlt' : ¬ (pmems.length : Int) < (pmems.length : Int) := by omega
          have hbw := HB0.out.trans (hb.mono hW1)
          have hrow' := hrow
          rw [List.take_length] at hrow'
          have HRW := Lib.hid hrow'; have HBW := Lib.hid hbw
          clear hrow hrow' hb hbw hrow4
          go_wp2_with fail
          go_ret
          refine ⟨_, rfl, own_lower ?_ (Nat.le_succ _), HBW.out⟩
          rw [← List.append_assoc, HH.out]
          exact HRW.out
end
end Go.Proofs.YtmghklokbmdenaaDoor
