/- The walk of CodeUnlike: it answers true, whatever it is given. -/
import Derived.Test.YtndobndaikhalaaAwake2
import Derived.Test.YtndobndaikhalaaWdMath
set_option linter.unusedVariables false
set_option linter.unusedSimpArgs false
namespace Go.Proofs.Ytndobndaikhalaa
open Go.RowKit
section
variable {P : Program} (w : World)
theorem run_app_nil (base : Nat) (t ty e : TypeId) (i : TypeInfo) (ht : P.underlying t = some (.slice e)) (hi : P.info? e = some i) (v : Value) (n : Nat) (xs : List Value) (hown : w.ownsRow base e 1 v n xs) (c : Nat) :
    (Builtin.append_ #[t, t] ty #[v, .slice none 0 c]).run P w = .ok v w := by
  rcases hown.2 with ⟨rfl, rfl⟩ | ⟨g, cap, cur, rfl, _, _, hnc, _⟩ <;> simp [Builtin.append_, run_underlying ht, sizeOf, typeInfo, hi, Builtin.lenOf, Builtin.firstCells, storeCells, *]
/-- append of a row that is read to a row of the call's own -/
theorem wp_appR {ops : Array Oper} {rest : List Oper} {o : Oper} {a : Act} {Q : Exit → Act → World → Prop} (hgd : o.guard = none) (s x : Operand) (t : TypeId)
    (ho : o.op = .call { callee := .builtin .append, args := #[s, x], argTypes := #[t, t] })
    (B : Nat) (e : TypeId) (i : TypeInfo) (z : Value) (bytes : Nat) (ht : P.underlying t = some (.slice e)) (hi : P.info? e = some i) (hz : i.zero = some z)
    (hsize : i.size = 1) (hby : i.bytes = bytes) (hzs : z.cells.size = 1)
    (v : Value) (n : Nat) (xs : List Value) (hs : a.eval s = v) (hown : w.ownsRow B e 1 v n xs)
    (B' : Nat) (A : Option Addr) (m c : Nat) (ys : List Value) (hx : a.eval x = .slice A m c) (hm : m = ys.length) (hr : Rd w B' A ys) (h1 : ∀ u ∈ ys, u.oneCell' = true)
    (hn : n + m ≤ 1099511627776) (hbytes : bytes ≤ 64) (hbase : B ≤ w.heap.size)
    (h : ∀ v' w', w'.ownsRow B e 1 v' (n + m) (xs ++ ys) → Below B w w' → wpList P ops Q rest (a.put o.dst v') w') :
    wpList P ops Q (o :: rest) a w := by
  cases A with
  | some ad =>
    refine wpList_append_own_at w hgd s x t ho B e i z 1 bytes ht hi hz hsize hby hzs (by omega) v n xs hs hown ad m c ys hx (by omega) hr.cells h1 (by simp only [maxLen]; omega) ?_ hbase fun v' w' h2 h3 _ _ => h v' w' h2 (below_own (Below.refl _ _) hown h3 hbase)
    have : (n + m) * bytes ≤ 1099511627776 * 64 := Nat.mul_le_mul hn hbytes
    omega
  | none =>
    have hy := hr.none_nil
    subst hy
    obtain rfl : m = 0 := hm
    refine wpList_plain hgd fun K hK => ?_
    have hrun := run_app_nil w (P := P) B t o.type e i ht hi v n xs hown c
    unfold Oper.wp
    simp [execOp, ho, resolve, invoke, builtin, hs, hx, hrun, Result.andThen]
    exact hK _ _ (h v w (by simpa using hown) (Below.refl _ _))
end
theorem own_lit0 (w : World) (t : TypeId) : (w.alloc (.cells #[] t)).ownsRow w.heap.size t 1 (.slice (some ⟨w.heap.size, 0, none⟩) 0 0) 0 [] := by
  have := World.ownsRow_lit (e := t) (size := 1) (base := w.heap.size) w #[] 0 (Nat.le_refl _) (by simp [maxLen]) rfl
  simpa using this
theorem own_lit1 (w : World) (t : TypeId) (g : Nat) (hg : g = w.heap.size) : (w.alloc (.cells #[] t)).ownsRow w.heap.size t 1 (.slice (some ⟨g, 0, none⟩) 0 0) 0 [] := by
  rw [hg]; exact own_lit0 w t
theorem keep_cell {w w' : World} {a : Addr} {v : Value} (hb : Below w.heap.size w w') (h : w.cell? a = some v) : w'.cell? a = some v := (hb.cell (World.block_lt_of_cell? w a h)).trans h
theorem three_ways {xs zs : List Int} (h1 : Cd.isI xs) (h2 : Cd.isI zs) :
    ((xs == zs) = true ∧ Cd.lessB (Cd.putL xs) (Cd.putL zs) = false ∧ Cd.lessB (Cd.putL zs) (Cd.putL xs) = false ∧ ((strOfNums (Cd.putL xs)).toList == (strOfNums (Cd.putL zs)).toList) = true) ∨
    ((xs == zs) = false ∧ Cd.lessB (Cd.putL xs) (Cd.putL zs) = true ∧ Cd.lessB (Cd.putL zs) (Cd.putL xs) = false ∧ ((strOfNums (Cd.putL xs)).toList == (strOfNums (Cd.putL zs)).toList) = false) ∨
    ((xs == zs) = false ∧ Cd.lessB (Cd.putL xs) (Cd.putL zs) = false ∧ Cd.lessB (Cd.putL zs) (Cd.putL xs) = true ∧ ((strOfNums (Cd.putL xs)).toList == (strOfNums (Cd.putL zs)).toList) = false) := by
  have b1 := Cd.putL_isB xs
  have b2 := Cd.putL_isB zs
  rw [str_beq b1 b2]
  by_cases h : xs = zs
  · subst h
    left
    exact ⟨by simp, Cd.less_self _, Cd.less_self _, by simp⟩
  · have hne : Cd.putL xs ≠ Cd.putL zs := fun e => h ((Cd.put_inj h1 h2).1 e)
    have e1 : (xs == zs) = false := by simpa using h
    have e2 : (Cd.putL xs == Cd.putL zs) = false := by simpa using hne
    rcases Cd.less_tri b1 b2 hne with hl | hl
    · exact .inr (.inl ⟨e1, hl, Cd.less_asym hl, e2⟩)
    · exact .inr (.inr ⟨e1, Cd.less_asym hl, hl, e2⟩)
theorem own_zero {w : World} {B : Nat} {t : TypeId} {v : Value} {n : Nat} {xs : List Value} (h : w.ownsRow B t 1 v (0 + n) ([] ++ xs)) : w.ownsRow B t 1 v n xs := by simpa using h
theorem row_cell {w : World} {B : Nat} {t : TypeId} {g n cap j : Nat} {k : IntKind} {zs : List Int} (h : w.ownsRow B t 1 (.slice (some ⟨g, 0, none⟩) n cap) n (zs.map (Value.int k))) (hj : j < zs.length) : w.cell? ⟨g, j, none⟩ = some (.int k (zs.getD j 0)) := by
  have hn := own_len h
  rw [List.length_map] at hn
  rw [h.cellAt j (by omega)]
  simp [hj]
theorem ints_one (k : IntKind) (zs : List Int) : ∀ u ∈ zs.map (Value.int k), u.oneCell' = true := by
  intro u hu
  obtain ⟨_, _, rfl⟩ := List.mem_map.1 hu
  rfl
theorem isI_set {l : List Int} (h : Cd.isI l) {x : Int} (h0 : -9223372036854775808 ≤ x ∧ x < 9223372036854775808) (j : Nat) : Cd.isI (l.set j x) := fun y hy => by
  rcases List.mem_or_eq_of_mem_set hy with h1 | h1
  · exact h y h1
  · rw [h1]; exact h0
/-- what the loop of CodeUnlike needs of each of its three rows -/
def Three (W : World) (g : Nat) : Prop := ∀ k, k < 3 → ∃ A c zs, W.cell? ⟨g, k, none⟩ = some (.slice A (zs : List Int).length c) ∧ zs.length ≤ 101 ∧ Cd.isI zs ∧ Rd W W.heap.size A (zs.map (Value.int .i64))
theorem le_alloc {w w' : World} {B : Nat} {o : Obj} (h : Below B (w.alloc o) w') : w.heap.size ≤ w'.heap.size := by have := h.size; simp at this; omega
theorem own_sliceI {w : World} {B : Nat} {t : TypeId} {k : IntKind} {v : Value} {n : Nat} {zs : List Int} (h : w.ownsRow B t 1 v n (zs.map (Value.int k))) : ∃ A c, v = .slice A zs.length c ∧ Rd w w.heap.size A (zs.map (Value.int k)) := by
  obtain ⟨A, c, hv, _, _, hn, hr⟩ := own_slice h
  rw [List.length_map] at hn
  subst hn
  exact ⟨A, c, hv, hr⟩
theorem set_read {w : World} {B : Nat} {t : TypeId} {g n cap j : Nat} {k : IntKind} {zs : List Int} (h : w.ownsRow B t 1 (.slice (some ⟨g, 0, none⟩) n cap) n (zs.map (Value.int k))) (x : Int) :
    Rd (w.setCell ⟨g, j, none⟩ (.int k x)) (w.setCell ⟨g, j, none⟩ (.int k x)).heap.size (some ⟨g, 0, none⟩) ((zs.set j x).map (Value.int k)) := by
  have hs := (h.stored j (.int k x)).1
  have he : (zs.map (Value.int k)).set j (.int k x) = (zs.set j x).map (Value.int k) := by rw [List.map_set]
  rw [he] at hs
  obtain ⟨A, c, hv, hr⟩ := own_sliceI hs
  simp only [Value.slice.injEq] at hv
  rw [hv.1]
  exact hr
theorem isI_snoc {l : List Int} (h : Cd.isI l) {x : Int} (h0 : -9223372036854775808 ≤ x) (h1 : x < 9223372036854775808) : Cd.isI (l ++ [x]) := fun y hy => by
  rcases List.mem_append.1 hy with h2 | h2
  · exact h y h2
  · simp at h2; rw [h2]; exact ⟨h0, h1⟩
theorem three_mk {w : World} {t : TypeId} {A1 A2 A4 : Option Addr} {n m c1 c2 c4 : Nat} {bs zs1 zs2 : List Int} (hn : n = zs1.length) (hm : m = zs2.length) (h1 : bs.length ≤ 100) (h2 : zs1.length ≤ 100) (h3 : zs2.length ≤ 101) (i1 : Cd.isI bs) (i2 : Cd.isI zs1) (i3 : Cd.isI zs2)
    (r1 : Rd w w.heap.size A1 (bs.map (Value.int .i64))) (r2 : Rd w w.heap.size A2 (zs1.map (Value.int .i64))) (r3 : Rd w w.heap.size A4 (zs2.map (Value.int .i64))) :
    Three (w.alloc (.cells #[.slice A1 bs.length c1, .slice A2 n c2, .slice A4 m c4] t)) w.heap.size := by
  subst hn hm
  intro k hk
  have hh : (w.alloc (.cells #[.slice A1 bs.length c1, .slice A2 zs1.length c2, .slice A4 zs2.length c4] t)).heap[w.heap.size]? = some (.cells #[.slice A1 bs.length c1, .slice A2 zs1.length c2, .slice A4 zs2.length c4] t) := heap_alloc_new w _
  rcases (by omega : k = 0 ∨ k = 1 ∨ k = 2) with rfl | rfl | rfl
  · exact ⟨A1, c1, bs, by rw [cell_of_row _ _ _ _ _ _ hh]; rfl, by omega, i1, r1.allocT _⟩
  · exact ⟨A2, c2, zs1, by rw [cell_of_row _ _ _ _ _ _ hh]; rfl, by omega, i2, r2.allocT _⟩
  · exact ⟨A4, c4, zs2, by rw [cell_of_row _ _ _ _ _ _ hh]; rfl, by omega, i3, r3.allocT _⟩
set_option maxRecDepth 100000 in
set_option maxHeartbeats 8000000 in
theorem unlike_body (A0 A1 : Option Addr) (c0 c1 : Nat) (xs0 bs : List Int) (at0 to0 : Int) (w : World)
    (ha : Rd w w.heap.size A0 (xs0.map (Value.int .i64))) (hb : Rd w w.heap.size A1 (bs.map (Value.int .i64)))
    (hIa : Cd.isI xs0) (hIb : Cd.isI bs) (ht0 : -9223372036854775808 ≤ to0) (ht1 : to0 < 9223372036854775808) (s0 : xs0.length ≤ 100) (s1 : bs.length ≤ 100) :
    Calls Try.prog 7 #[.slice A0 xs0.length c0, .slice A1 bs.length c1, .int .i64 at0, .int .i64 to0] w (RetB (.bool true) w) := by
  obtain ⟨i0, hi0, hz0, hs0, hb0⟩ := info_parts infoI
  have hlit := own_lit0 w 3
  by_cases hN : xs0.length ≤ 0
  · go_enter Try.func7, Try.ntmps7
    go_wp2_with (first
      | (at_builtin; refine wp_appR _ rfl (.tmp 26) (.tmp 27) _ rfl w.heap.size 3 i0 _ 8 Try.underlying22 hi0 hz0 hs0 hb0 rfl _ 0 [] rfl hlit (w.alloc (.cells #[] 3)).heap.size A0 xs0.length c0 (xs0.map (Value.int .i64)) rfl (by simp) (ha.allocT _) (ints_one _ _) (by omega) (by omega) (by simp) ?_; intro v1 w1 hown1 hb1
         replace hown1 := own_zero hown1
         have hbw1 : Below w.heap.size w w1 := (upA (up0 w) _).trans hb1
         obtain ⟨A2, c2, rfl, hr1⟩ := own_sliceI (zs := xs0) hown1; clear hown1 hb1)
      | (at_builtin; refine wp_appR _ rfl (.tmp 42) (.tmp 43) _ rfl (w1).heap.size 3 i0 _ 8 Try.underlying22 hi0 hz0 hs0 hb0 rfl _ 0 [] rfl (own_lit1 _ _ _ (by simp)) ((w1).alloc (.cells #[] 3)).heap.size A0 xs0.length c0 (xs0.map (Value.int .i64)) rfl (by simp) ((ha.belowT hbw1).allocT _) (ints_one _ _) (by omega) (by omega) (by simp) ?_; intro v3 w3 hown3 hb3
         replace hown3 := own_zero hown3
         have hsz3 : (w1).heap.size ≤ w3.heap.size := (le_alloc hb3)
         have hbx3 : Below (w1).heap.size (w1) w3 := (upA (up0 _) _).trans hb3
         clear hb3)
      | (at_builtin; refine wp_app1 _ rfl (.tmp 44) (.tmp 46) _ rfl (w1).heap.size 3 i0 _ 8 Try.underlying22 hi0 hz0 hs0 hb0 rfl v3 xs0.length _ rfl hown3 (.int .i64 to0) rfl rfl (by omega) (by omega) hsz3 ?_; intro v4 w4 hown4 hb4
         obtain ⟨A4, c4, rfl, hr4⟩ := own_sliceI (zs := xs0 ++ [to0]) (by simpa using hown4)
         have hbx4 := hbx3.trans hb4
         have hbw4 := upT hbw1 hbx4
         clear hown4 hown3 hb4 hbx3 hsz3))
    have h3 : Three (w4.alloc (.cells #[.slice A1 bs.length c1, .slice A2 xs0.length c2, .slice A4 (xs0.length + 1) c4] 22)) w4.heap.size :=
      three_mk (zs1 := xs0) (zs2 := xs0 ++ [to0]) rfl (by simp) s1 (by omega) (by simp; omega) hIb hIa (isI_snoc hIa ht0 ht1) (hb.belowT hbw4) (hr1.belowT hbx4) hr4
    have haW := (ha.belowT hbw4).allocT (.cells #[.slice A1 bs.length c1, .slice A2 xs0.length c2, .slice A4 (xs0.length + 1) c4] 22)
    have hbW := upA hbw4 (.cells #[.slice A1 bs.length c1, .slice A2 xs0.length c2, .slice A4 (xs0.length + 1) c4] 22)
    clear hr1 hr4 hbx4 hbw4 hlit
    generalize w4.heap.size = gW at *
    generalize w4.alloc (.cells #[.slice A1 bs.length c1, .slice A2 xs0.length c2, .slice A4 (xs0.length + 1) c4] 22) = W at *
    go_loopw [50] (fun i wr => ∃ k : Nat, k ≤ 3 ∧ i = .int .i64 k ∧ Below W.heap.size W wr) (fun i _ => 3 - (intOf i).toNat)
    case atStart => exact ⟨0, by omega, rfl, up0 _⟩
    case round =>
      obtain ⟨k, hk, rfl, hbr⟩ := hrel
      by_cases hlt : k < 3
      · obtain ⟨Ax, cx, zs, hcell0, hzl, hIz, hrz⟩ := h3 k hlt
        have hcellr := keep_cell hbr hcell0
        have har := haW.belowT hbr
        have hzr := hrz.belowT hbr
        obtain ⟨wo, rfl⟩ : ∃ wo : World, wo = wr := ⟨_, rfl⟩
        have hlz : (Cd.putL zs).length ≤ 1000000 := by have := Cd.putL_len_le zs; omega
        have HBq := Lib.hid (Cd.putL_isB zs)
        have HG := Lib.hid (Cd.get_put hIz)
        have e9 : (zs == zs) = true := by simp
        clear hcell0 hrz
        rcases three_ways hIa hIz with ⟨e1, e2, e3, e4⟩ | ⟨e1, e2, e3, e4⟩ | ⟨e1, e2, e3, e4⟩
        all_goals
          go_wp2_with fail
          refine (Put_any A0 _ c0 xs0 _ rfl har hIa (by omega)).mono ?_
          intro e w5 hp5
          obtain ⟨Ap, cp, rfl, hcp, hmp, hrp, hb5⟩ := hp5.sl
          clear hp5
          go_wp2_with fail
          refine (Put_any Ax _ cx zs _ rfl (hzr.belowT hb5) hIz (by omega)).mono ?_
          intro e w6 hp6
          obtain ⟨Aq, cq, rfl, hcq, hmq, hrq, hb6⟩ := hp6.sl
          clear hp6
          have hz6 := (hzr.belowT hb5).belowT hb6
          have ha6 := (har.belowT hb5).belowT hb6
          have hrp6 := hrp.belowT hb6
          go_wp2_with fail
          refine (same_any A0 Ax w6.heap.size c0 cx _ _ xs0 zs _ rfl rfl ha6 hz6 (by omega) (by omega)).mono ?_
          rintro e w7 ⟨rfl, q7, rfl⟩
          go_wp2_with fail
          refine (Get_any Aq _ cq (Cd.putL zs) _ rfl hcq hmq (hrq.drewT q7) HBq.out hlz).mono ?_
          intro e w8 hp8
          obtain ⟨Ay, cy, rfl, hcy, hmy, hry, hb8⟩ := hp8.sl HG.out
          clear hp8
          have hz8 := (hz6.drewT q7).belowT hb8
          have hp8 := (hrp6.drewT q7).belowT hb8
          have hq8 := (hrq.drewT q7).belowT hb8
          have k1 := conv_any (P := Try.prog) (c := cp) hp8 rfl 24 5 9 Try.underlying24 Try.underlying5 Try.underlying9
          have k2 := conv_any (P := Try.prog) (c := cq) hq8 rfl 24 5 9 Try.underlying24 Try.underlying5 Try.underlying9
          have hb9 := upT (upD (upT hb5 hb6) q7) hb8
          clear hrp hrq hrp6 ha6 hz6 hb5 hb6 hb8
          go_wp2_with (first
            | (go_at_call 11; refine (same_any Ax Ay w8.heap.size cx cy _ _ zs zs _ rfl rfl hz8 hry (by omega) (by omega)).mono ?_; rintro e w9 ⟨rfl, q9, rfl⟩)
            | (go_at_call 12; (first | (with_reducible refine (less_any Ap Aq w8.heap.size _ _ cp cq (Cd.putL xs0) (Cd.putL zs) _ rfl rfl (hp8.drewT q9) (hq8.drewT q9)).mono ?_) | (with_reducible refine (less_any Aq Ap w8.heap.size _ _ cq cp (Cd.putL zs) (Cd.putL xs0) _ rfl rfl (hq8.drewT q9) (hp8.drewT q9)).mono ?_)); rintro e w' ⟨rfl, rfl⟩))
          go_round
          case rel => exact ⟨k + 1, by omega, by go_num, hbr.trans ((upD hb9 _).mono hbr.size)⟩
          case measure => simp [intOf]; omega
      · go_wp2_with (go_at_call 8; refine (awake2 _).mono ?_; rintro e w' ⟨rfl, hbw⟩)
        go_ret
        exact RetB.b rfl rfl (upT (upT hbW hbr) hbw)
  · have hN0 : 0 < xs0.length := by omega
    clear hN
    obtain ⟨j, hj, mj⟩ : ∃ j : Nat, j < xs0.length ∧ (bits .and .i64 at0 65535) % (xs0.length : Int) = j := by
      have h0 : 0 ≤ bits .and .i64 at0 65535 := by have := Wd.bits_mask at0 16 (by omega); rw [show (65535 : Int) = 2 ^ 16 - 1 from rfl, this]; omega
      have h1 := Int.emod_nonneg (bits .and .i64 at0 65535) (b := (xs0.length : Int)) (by omega)
      have h2 := Int.emod_lt_of_pos (bits .and .i64 at0 65535) (b := (xs0.length : Int)) (by omega)
      exact ⟨((bits .and .i64 at0 65535) % (xs0.length : Int)).toNat, by omega, by omega⟩
    have b0 : 0 ≤ bits .and .i64 at0 65535 := by have := Wd.bits_mask at0 16 (by omega); rw [show (65535 : Int) = 2 ^ 16 - 1 from rfl, this]; omega
    go_enter Try.func7, Try.ntmps7
    go_wp2_with (first
      | (at_builtin; refine wp_appR _ rfl (.tmp 26) (.tmp 27) _ rfl w.heap.size 3 i0 _ 8 Try.underlying22 hi0 hz0 hs0 hb0 rfl _ 0 [] rfl hlit (w.alloc (.cells #[] 3)).heap.size A0 xs0.length c0 (xs0.map (Value.int .i64)) rfl (by simp) (ha.allocT _) (ints_one _ _) (by omega) (by omega) (by simp) ?_; intro v1 w1 hown1 hb1
         replace hown1 := own_zero hown1
         have hbw1 : Below w.heap.size w w1 := (upA (up0 w) _).trans hb1
         obtain ⟨g, cap, rfl, hg1, hg2⟩ := hown1.form hN0
         have hcell := row_cell hown1 hj
         have hfr := hown1.frozenAt j
         have hr1 := set_read hown1 (j := j) to0
         have hbw2 := hbw1.setCell (p := ⟨g, j, none⟩) hg1 (.int .i64 to0)
         clear hown1 hb1)
      | (at_builtin; refine wp_appR _ rfl (.tmp 42) (.tmp 43) _ rfl (w1.setCell ⟨g, j, none⟩ (.int .i64 to0)).heap.size 3 i0 _ 8 Try.underlying22 hi0 hz0 hs0 hb0 rfl _ 0 [] rfl (own_lit1 _ _ _ (by simp)) ((w1.setCell ⟨g, j, none⟩ (.int .i64 to0)).alloc (.cells #[] 3)).heap.size A0 xs0.length c0 (xs0.map (Value.int .i64)) rfl (by simp) ((ha.belowT hbw2).allocT _) (ints_one _ _) (by omega) (by omega) (by simp) ?_; intro v3 w3 hown3 hb3
         replace hown3 := own_zero hown3
         have hsz3 : (w1.setCell ⟨g, j, none⟩ (.int .i64 to0)).heap.size ≤ w3.heap.size := (le_alloc hb3)
         have hbx3 : Below (w1.setCell ⟨g, j, none⟩ (.int .i64 to0)).heap.size (w1.setCell ⟨g, j, none⟩ (.int .i64 to0)) w3 := (upA (up0 _) _).trans hb3
         clear hb3)
      | (at_builtin; refine wp_app1 _ rfl (.tmp 44) (.tmp 46) _ rfl (w1.setCell ⟨g, j, none⟩ (.int .i64 to0)).heap.size 3 i0 _ 8 Try.underlying22 hi0 hz0 hs0 hb0 rfl v3 xs0.length _ rfl hown3 (.int .i64 to0) rfl rfl (by omega) (by omega) hsz3 ?_; intro v4 w4 hown4 hb4
         obtain ⟨A4, c4, rfl, hr4⟩ := own_sliceI (zs := xs0 ++ [to0]) (by simpa using hown4)
         have hbx4 := hbx3.trans hb4
         have hbw4 := upT hbw2 hbx4
         clear hown4 hown3 hb4 hbx3 hsz3))
    have h3 : Three (w4.alloc (.cells #[.slice A1 bs.length c1, .slice (some ⟨g, 0, none⟩) xs0.length cap, .slice A4 (xs0.length + 1) c4] 22)) w4.heap.size :=
      three_mk (zs1 := xs0.set j to0) (zs2 := xs0 ++ [to0]) (by simp) (by simp) s1 (by simp; omega) (by simp; omega) hIb (isI_set hIa ⟨ht0, ht1⟩ j) (isI_snoc hIa ht0 ht1) (hb.belowT hbw4) (hr1.belowT hbx4) hr4
    have haW := (ha.belowT hbw4).allocT (.cells #[.slice A1 bs.length c1, .slice (some ⟨g, 0, none⟩) xs0.length cap, .slice A4 (xs0.length + 1) c4] 22)
    have hbW := upA hbw4 (.cells #[.slice A1 bs.length c1, .slice (some ⟨g, 0, none⟩) xs0.length cap, .slice A4 (xs0.length + 1) c4] 22)
    clear hr1 hr4 hbx4 hbw4 hlit
    generalize w4.heap.size = gW at *
    generalize w4.alloc (.cells #[.slice A1 bs.length c1, .slice (some ⟨g, 0, none⟩) xs0.length cap, .slice A4 (xs0.length + 1) c4] 22) = W at *
    go_loopw [50] (fun i wr => ∃ k : Nat, k ≤ 3 ∧ i = .int .i64 k ∧ Below W.heap.size W wr) (fun i _ => 3 - (intOf i).toNat)
    case atStart => exact ⟨0, by omega, rfl, up0 _⟩
    case round =>
      obtain ⟨k, hk, rfl, hbr⟩ := hrel
      by_cases hlt : k < 3
      · obtain ⟨Ax, cx, zs, hcell0, hzl, hIz, hrz⟩ := h3 k hlt
        have hcellr := keep_cell hbr hcell0
        have har := haW.belowT hbr
        have hzr := hrz.belowT hbr
        obtain ⟨wo, rfl⟩ : ∃ wo : World, wo = wr := ⟨_, rfl⟩
        have hlz : (Cd.putL zs).length ≤ 1000000 := by have := Cd.putL_len_le zs; omega
        have HBq := Lib.hid (Cd.putL_isB zs)
        have HG := Lib.hid (Cd.get_put hIz)
        have e9 : (zs == zs) = true := by simp
        clear hcell0 hrz
        rcases three_ways hIa hIz with ⟨e1, e2, e3, e4⟩ | ⟨e1, e2, e3, e4⟩ | ⟨e1, e2, e3, e4⟩
        all_goals
          go_wp2_with fail
          refine (Put_any A0 _ c0 xs0 _ rfl har hIa (by omega)).mono ?_
          intro e w5 hp5
          obtain ⟨Ap, cp, rfl, hcp, hmp, hrp, hb5⟩ := hp5.sl
          clear hp5
          go_wp2_with fail
          refine (Put_any Ax _ cx zs _ rfl (hzr.belowT hb5) hIz (by omega)).mono ?_
          intro e w6 hp6
          obtain ⟨Aq, cq, rfl, hcq, hmq, hrq, hb6⟩ := hp6.sl
          clear hp6
          have hz6 := (hzr.belowT hb5).belowT hb6
          have ha6 := (har.belowT hb5).belowT hb6
          have hrp6 := hrp.belowT hb6
          go_wp2_with fail
          refine (same_any A0 Ax w6.heap.size c0 cx _ _ xs0 zs _ rfl rfl ha6 hz6 (by omega) (by omega)).mono ?_
          rintro e w7 ⟨rfl, q7, rfl⟩
          go_wp2_with fail
          refine (Get_any Aq _ cq (Cd.putL zs) _ rfl hcq hmq (hrq.drewT q7) HBq.out hlz).mono ?_
          intro e w8 hp8
          obtain ⟨Ay, cy, rfl, hcy, hmy, hry, hb8⟩ := hp8.sl HG.out
          clear hp8
          have hz8 := (hz6.drewT q7).belowT hb8
          have hp8 := (hrp6.drewT q7).belowT hb8
          have hq8 := (hrq.drewT q7).belowT hb8
          have k1 := conv_any (P := Try.prog) (c := cp) hp8 rfl 24 5 9 Try.underlying24 Try.underlying5 Try.underlying9
          have k2 := conv_any (P := Try.prog) (c := cq) hq8 rfl 24 5 9 Try.underlying24 Try.underlying5 Try.underlying9
          have hb9 := upT (upD (upT hb5 hb6) q7) hb8
          clear hrp hrq hrp6 ha6 hz6 hb5 hb6 hb8
          go_wp2_with (first
            | (go_at_call 11; refine (same_any Ax Ay w8.heap.size cx cy _ _ zs zs _ rfl rfl hz8 hry (by omega) (by omega)).mono ?_; rintro e w9 ⟨rfl, q9, rfl⟩)
            | (go_at_call 12; (first | (with_reducible refine (less_any Ap Aq w8.heap.size _ _ cp cq (Cd.putL xs0) (Cd.putL zs) _ rfl rfl (hp8.drewT q9) (hq8.drewT q9)).mono ?_) | (with_reducible refine (less_any Aq Ap w8.heap.size _ _ cq cp (Cd.putL zs) (Cd.putL xs0) _ rfl rfl (hq8.drewT q9) (hp8.drewT q9)).mono ?_)); rintro e w' ⟨rfl, rfl⟩))
          go_round
          case rel => exact ⟨k + 1, by omega, by go_num, hbr.trans ((upD hb9 _).mono hbr.size)⟩
          case measure => simp [intOf]; omega
      · go_wp2_with (go_at_call 8; refine (awake2 _).mono ?_; rintro e w' ⟨rfl, hbw⟩)
        go_ret
        exact RetB.b rfl rfl (upT (upT hbW hbr) hbw)

theorem walk_CodeUnlike (A0 A1 : Option Addr) (c0 c1 : Nat) (xs0 bs : List Int) (at0 to0 : Int) (w : World)
    (ha : Rd w w.heap.size A0 (xs0.map (Value.int .i64))) (hb : Rd w w.heap.size A1 (bs.map (Value.int .i64)))
    (hIa : Cd.isI xs0) (hIb : Cd.isI bs) (ht : -9223372036854775808 ≤ to0 ∧ to0 ≤ 9223372036854775807) (hm0 : xs0.length ≤ c0) (hm0' : c0 ≤ 140737488351232) (hm1 : bs.length ≤ c1) (hm1' : c1 ≤ 140737488351232) :
    Calls Try.prog 7 #[.slice A0 xs0.length c0, .slice A1 bs.length c1, .int .i64 at0, .int .i64 to0] w (RetB (.bool true) w) := by
  by_cases s : xs0.length ≤ 100 ∧ bs.length ≤ 100
  · exact unlike_body A0 A1 c0 c1 xs0 bs at0 to0 w ha hb hIa hIb ht.1 (by omega) s.1 s.2
  · clear ha hb hIa hIb
    generalize xs0.length = n at *
    generalize bs.length = n' at *
    by_cases s1 : 100 < n
    all_goals by_cases s2 : 100 < n'
    all_goals first | (exfalso; omega) | skip
    all_goals
      clear s
      go_enter Try.func7, Try.ntmps7
      go_wp2_with (go_at_call 8; refine (awake2 _).mono ?_; rintro e w' ⟨rfl, hbw⟩)
      go_ret
      exact RetB.b rfl rfl hbw
end Go.Proofs.Ytndobndaikhalaa
