/- Fields, elements, parts, tuples; the whole of the pure operations. -/
import Derived.Test.YtdbnfdcjibgikaaRx6
set_option linter.unusedVariables false
set_option linter.unusedSimpArgs false
namespace Go.Proofs.Ytdbnfdcjibgikaa.Rx
open Go.RowKit
section
variable {P : Program} {cx : Cx}
theorem fieldOf_some {t : TypeId} {k : Nat} {q : Nat × TypeId} (h : fieldOf P t k = some q) : ∃ fs f s, P.underlying t = some (.struct fs) ∧ fs[k]? = some f ∧ q = (f.offset, f.type) ∧ szOf P f.type = some s ∧ 0 < s := by
  unfold fieldOf at h
  split at h
  · rename_i fs hu
    obtain ⟨f, hf, h⟩ := Option.bind_eq_some_iff.1 h
    obtain ⟨s, hs, h⟩ := Option.bind_eq_some_iff.1 h
    obtain ⟨hb, h⟩ := bif_some h
    simp only [Option.some.injEq] at h
    exact ⟨fs, f, s, hu, hf, h.symm, hs, Nat.blt_eq ▸ hb⟩
  · cases h
theorem run_fieldAt {t : TypeId} {k : Nat} {q : Nat × TypeId} (h : fieldOf P t k = some q) (g o : Nat) (w : World) : (Instr.fieldAt t (.pointer (some ⟨g, o, none⟩)) k).run P w = .ok (.pointer (some ⟨g, o + q.1, none⟩)) w := by
  obtain ⟨fs, f, s, hu, hf, rfl, hs, h0⟩ := fieldOf_some h
  have hs0 : s ≠ 0 := by omega
  simp [Instr.fieldAt, run_underlying hu, hf, Instr.sureAddr, fieldPlace, run_sizeOf' hs, hs0, adr_mk]
theorem run_fieldAddrA {t : TypeId} {x a : AV} {k : Nat} (h : fieldAddrA P t x k cx.H = some a) {v : Value} (hx : Rep cx x v) (w : World) : ∃ z, (Instr.fieldAt t v k).run P w = .ok z w ∧ Rep cx a z := by
  unfold fieldAddrA at h
  obtain ⟨q, hq, h⟩ := Option.bind_eq_some_iff.1 h
  split at h
  · simp only [Option.some.injEq] at h; subst h
    obtain ⟨g, cap, b, h1, h2, h3, rfl⟩ := hx.bptr_inv
    exact ⟨_, run_fieldAt hq g _ w, .bptr h1 h2 h3⟩
  · obtain ⟨hg, h⟩ := bif_some h
    simp only [Option.some.injEq] at h; subst h
    obtain ⟨b, hb, hle, h⟩ := hx.eptr_inv
    obtain ⟨n, f, g, cap, h1, h2, h3, rfl⟩ := h (curG_some hg hb)
    exact ⟨_, run_fieldAt hq g _ w, .eptr hb hle rfl fun _ => ⟨n, f, g, cap, h1, h2, h3, by rw [Nat.add_assoc]⟩⟩
  · simp only [Option.some.injEq] at h; subst h
    obtain ⟨g, o, u, rfl, h1, h2, h3, h4⟩ := hx.rptr_inv
    exact ⟨_, run_fieldAt hq g _ w, by rw [Nat.add_assoc]; exact .pure (.rptr h1 u h2 h3 h4)⟩
  · cases h
theorem run_field {t : TypeId} {k : Nat} {q : Nat × TypeId} {cs : List AV} {a : AV} (hq : fieldOf P t k = some q) (h : partA P q.2 cs q.1 = some a) {v : Value} (hx : Rep cx (.agg cs) v) (w : World) : ∃ z, (Instr.field t v k).run P w = .ok z w ∧ Rep cx a z := by
  obtain ⟨vs, rfl, h1, h2, h3⟩ := hx.agg_inv
  obtain ⟨fs, f, s, hu, hf, rfl, hs, h0⟩ := fieldOf_some hq
  obtain ⟨u, hr, hR⟩ := run_partA h h1 h2 h3 w
  refine ⟨u, ?_, hR⟩
  simp [Instr.field, run_underlying hu, hf, asAgg, hr]
theorem run_indexArr {t e : TypeId} {n s g o : Nat} (hu : P.underlying t = some (.array n e)) (hs : szOf P e = some s) {k : IntKind} {i : Int} (h0 : 0 ≤ i) (h1 : i < n) (w : World) :
    (Instr.indexAt t (.pointer (some ⟨g, o, none⟩)) (.int k i)).run P w = .ok (.pointer (some ⟨g, o + i.toNat * s, none⟩)) w := by
  simp [Instr.indexAt, asIntOf, run_underlying hu, Instr.sureAddr, h0, h1, run_sizeOf' hs, adr_mk]
theorem run_indexSl {t e : TypeId} {len cap s g o : Nat} (hu : P.underlying t = some (.slice e)) (hs : szOf P e = some s) {k : IntKind} {i : Int} (h0 : 0 ≤ i) (h1 : i < len) (w : World) :
    (Instr.indexAt t (.slice (some ⟨g, o, none⟩) len cap) (.int k i)).run P w = .ok (.pointer (some ⟨g, o + i.toNat * s, none⟩)) w := by
  simp [Instr.indexAt, asIntOf, run_underlying hu, h0, h1, run_sizeOf' hs, adr_mk]
theorem run_indexAddrA0 {md : Bool} {t : TypeId} {x q : AV} {orc : List Orc} {r : Pu} (h : indexAddrA0 P md t x q cx.H orc = some r) (hc : ∀ p ∈ r.cs, p) {v u : Value} (hx : Rep cx x v) (hq : Rep cx q u) (w : World) :
    ∃ z, (Instr.indexAt t v u).run P w = .ok z w ∧ Rep cx r.v z := by
  unfold indexAddrA0 at h
  split at h
  · have e := hq.int_inv
    subst e
    rename_i k i
    split at h
    · obtain ⟨g, cap, b, h1, h2, h3, rfl⟩ := hx.bptr_inv
      split at h
      · rename_i n e hu
        obtain ⟨s, hs, h⟩ := Option.bind_eq_some_iff.1 h
        split at h
        · rename_i _ k' orc' _
          obtain ⟨hb, h⟩ := bif_some h
          simp only [Option.some.injEq] at h; subst h
          have hi := hc (i = (k' : Int)) (by simp)
          rw [Nat.blt_eq] at hb
          subst hi
          exact ⟨_, run_indexArr hu hs (by omega) (by omega) w, by simpa using Rep.bptr h1 h2 h3⟩
        · obtain ⟨p, hp, rfl⟩ := Option.map_eq_some_iff.1 h
          obtain ⟨c0, c1⟩ := chk_true hp
          exact ⟨_, run_indexArr hu hs c0 c1 w, .bptr h1 h2 h3⟩
      · cases h
    · rename_i id gen m off len
      obtain ⟨b, hb, hle, hO⟩ := hx.own_inv
      split at h
      · rename_i e hu
        obtain ⟨hm, h⟩ := bif_some h
        rw [Bool.and_eq_true] at hm
        have hs := sz_match hm.1
        have hg := curG_some hm.2 hb
        obtain ⟨p, hp, rfl⟩ := Option.map_eq_some_iff.1 h
        obtain ⟨c0, c1⟩ := chk_some hp hc
        obtain ⟨n, f, e1, e2, e3⟩ := hO hg
        rcases e3 with ⟨p1, rfl, rfl, rfl⟩ | ⟨gg, cap, p1, rfl⟩
        · omega
        · refine ⟨_, run_indexSl hu hs c0 c1 w, .eptr hb hle rfl fun _ => ⟨n, f, gg, cap, e1, by omega, p1, ?_⟩⟩
          rw [Nat.add_mul, Nat.add_zero, Nat.add_comm]
      · cases h
    · rename_i m n f
      have hx := hx.row_inv
      split at h
      · rename_i e hu
        obtain ⟨hm, h⟩ := bif_some h
        rw [Bool.and_eq_true, Nat.blt_eq] at hm
        have hs := sz_match hm.1
        obtain ⟨p, hp, rfl⟩ := Option.map_eq_some_iff.1 h
        obtain ⟨c0, c1⟩ := chk_some hp hc
        cases hx with
        | row A cap u hn hcap hA h1 hu' =>
          obtain ⟨g, o, rfl, hR, hcell⟩ := hA (Nat.mul_pos (by omega) hm.2)
          refine ⟨_, run_indexSl hu hs c0 c1 w, ?_⟩
          exact .pure (.rptr (o := o + i.toNat * m) (j := 0) hR (u i.toNat) (fun q hq => by rw [Nat.add_assoc]; exact hcell _ (by omega) q hq) (fun q hq => h1 _ (by omega) q hq) (fun q hq => hu' _ (by omega) q hq))
      · cases h
    · cases h
  · cases h
theorem run_indexAddrA {md : Bool} {t : TypeId} {x q : AV} {orc : List Orc} {r : Pu} (h : indexAddrA P md t x q cx.H orc = some r) (hc : ∀ p ∈ r.cs, p) {v u : Value} (hx : Rep cx x v) (hq : Rep cx q u) (w : World) :
    ∃ z, (Instr.indexAt t v u).run P w = .ok z w ∧ Rep cx r.v z := by
  unfold indexAddrA at h
  split at h
  · split at h
    · obtain ⟨r0, h0, rfl⟩ := Option.map_eq_some_iff.1 h
      have e := hc _ (List.mem_cons_self ..)
      subst e
      exact run_indexAddrA0 h0 (fun p hp => hc p (List.mem_cons_of_mem _ hp)) hx hq w
    · cases h
  · exact run_indexAddrA0 h hc hx hq w
theorem run_indexA {md : Bool} {t : TypeId} {x q : AV} {orc : List Orc} {r : Pu} (h : indexA P md t x q orc = some r) (hc : ∀ p ∈ r.cs, p) {v u : Value} (hx : Rep cx x v) (hq : Rep cx q u) (w : World) :
    ∃ z, (Instr.index t v u).run P w = .ok z w ∧ Rep cx r.v z := by
  unfold indexA at h
  split at h
  · have e := hq.int_inv
    subst e
    rename_i k i
    split at h
    · obtain ⟨vs, rfl, h1, h2, h3⟩ := hx.agg_inv
      split at h
      · rename_i n e hu
        obtain ⟨s, hs, h⟩ := Option.bind_eq_some_iff.1 h
        split at h
        · rename_i _ k' orc' _
          obtain ⟨hb, h⟩ := bif_some h
          obtain ⟨a, ha, rfl⟩ := Option.map_eq_some_iff.1 h
          have hi := hc (i = (k' : Int)) (by simp)
          rw [Nat.blt_eq] at hb
          subst hi
          obtain ⟨z, hr, hR⟩ := run_partA ha h1 h2 h3 w
          refine ⟨z, ?_, hR⟩
          have c1 : (k' : Int) < n := by omega
          simp [Instr.index, asIntOf, run_underlying hu, run_sizeOf' hs, hr, hb]
        · obtain ⟨p, hp, h⟩ := Option.bind_eq_some_iff.1 h
          obtain ⟨a, ha, rfl⟩ := Option.map_eq_some_iff.1 h
          obtain ⟨c0, c1⟩ := chk_true hp
          obtain ⟨z, hr, hR⟩ := run_partA ha h1 h2 h3 w
          refine ⟨z, ?_, hR⟩
          simp [Instr.index, asIntOf, run_underlying hu, run_sizeOf' hs, hr, c0, c1]
      · cases h
    · have e := hx.str_inv
      subst e
      rename_i s
      split at h
      · rename_i hu
        obtain ⟨p, hp, rfl⟩ := Option.map_eq_some_iff.1 h
        obtain ⟨c0, c1⟩ := chk_some hp hc
        have hlt : i.toNat < s.size := by omega
        have hlt' : i.toNat < s.data.toList.length := by simpa using hlt
        refine ⟨_, ?_, .pure (.int _ _)⟩
        have e1 : s[i.toNat]? = some s[i.toNat] := getElem?_pos s i.toNat hlt
        have e2 : s.data.toList.getD i.toNat 0 = s[i.toNat] := by
          rw [List.getD_eq_getElem?_getD, List.getElem?_eq_getElem hlt']; rfl
        simp only [Instr.index, asIntOf, Sem.run_bind, Sem.run_pure, Result.andThen_ok, run_underlying hu, c0, if_true, e1, e2]
      · cases h
    · cases h
  · cases h
theorem run_convertA {src dst : TypeId} {x a : AV} (h : convertA P src dst x = some a) {v : Value} (hx : Rep cx x v) (w : World) : ∃ z, (convert src dst v).run P w = .ok z w ∧ Rep cx a z := by
  unfold convertA at h
  split at h
  · rename_i d k hs hd
    split at h
    · simp only [Option.some.injEq] at h; subst h
      have e := hx.int_inv
      subst e
      refine ⟨_, ?_, rep_int _ _⟩
      simp [convert, run_underlying hs, run_underlying hd, Conv.intToInt]
    · cases h
  · rename_i hs hd
    split at h
    · simp only [Option.some.injEq] at h; subst h
      have e := hx.str_inv
      subst e
      refine ⟨_, ?_, .pure (.str _)⟩
      simp [convert, run_underlying hs, run_underlying hd]
    · cases h
  · cases h
/-- cells that are known, one by one -/
structure RL (cx : Cx) (xs : List AV) (vs : Array Value) : Prop where
  len : xs.length = vs.size
  one : ∀ (j : Nat) v, vs[j]? = some v → v.oneCell' = true
  rep : ∀ (j : Nat) a v, xs[j]? = some a → vs[j]? = some v → Rep cx a v
theorem RL.agg {xs : List AV} {vs : Array Value} (h : RL cx xs vs) : Rep cx (.agg xs) (.agg vs) := .agg h.len h.one h.rep
theorem RL.of {a : AV} {l : List AV} {v : Value} (hl : a.cells = some l) (h : Rep cx a v) : RL cx l v.cells := ⟨(h.cells hl).1, (h.cells hl).2.1, (h.cells hl).2.2⟩
theorem RL.set {xs : List AV} {vs : Array Value} (h : RL cx xs vs) (k : Nat) {a : AV} {v : Value} (ho : v.oneCell' = true) (hr : Rep cx a v) : RL cx (xs.set k a) (vs.setIfInBounds k v) := by
  refine ⟨by simpa using h.len, fun j u hu => ?_, fun j x u hx hu => ?_⟩
  · rw [Array.getElem?_setIfInBounds] at hu
    split at hu
    · split at hu
      · cases hu; exact ho
      · cases hu
    · exact h.one j u hu
  · rw [Array.getElem?_setIfInBounds] at hu
    rw [List.getElem?_set] at hx
    split at hu
    · rename_i e
      subst e
      simp only [if_true] at hx
      split at hu
      · split at hx
        · cases hu; cases hx; exact hr
        · cases hx
      · cases hu
    · rename_i e
      rw [if_neg e] at hx
      exact h.rep j x u hx hu
theorem RL.setR : ∀ (us : List Value) (bs : List AV) (k off : Nat) {xs : List AV} {vs : Array Value}, RL cx xs vs → bs.length = us.length → (∀ v ∈ us, v.oneCell' = true) → (∀ (j : Nat) b u, bs[j]? = some b → us[j]? = some u → Rep cx b u) →
    RL cx (setR xs (off + k) bs) ((us.zipIdx k).foldl (fun cs p => cs.setIfInBounds (off + p.2) p.1) vs)
  | [], bs, k, off, xs, vs, h, hl, ho, hr => by
    obtain rfl : bs = [] := List.eq_nil_of_length_eq_zero (by simpa using hl)
    simpa [Rx.setR] using h
  | u :: us, bs, k, off, xs, vs, h, hl, ho, hr => by
    cases bs with
    | nil => simp at hl
    | cons b bs =>
      simp only [Rx.setR, List.zipIdx_cons, List.foldl_cons]
      have := RL.setR us bs (k + 1) off (h.set (off + k) (ho u (by simp)) (hr 0 b u rfl rfl)) (by simpa using hl) (fun v hv => ho v (by simp [hv])) (fun j x v hx hv => hr (j + 1) x v (by simpa using hx) (by simpa using hv))
      exact this
theorem setR_length : ∀ (bs : List AV) (xs : List AV) (k : Nat), (setR xs k bs).length = xs.length
  | [], xs, k => rfl
  | b :: bs, xs, k => by rw [setR, setR_length]; simp
theorem run_fillA {place : Nat → Option (Nat × Nat)} : ∀ (pa : List (Nat × AV)) (pv : List (Nat × Value)) {xs bs : List AV} {vs : Array Value}, fillA place xs pa = some bs → RL cx xs vs → pa.length = pv.length →
    (∀ (j : Nat) p q, pa[j]? = some p → pv[j]? = some q → p.1 = q.1 ∧ Rep cx p.2 q.2) → ∃ us, Instr.fill place vs pv = some us ∧ RL cx bs us
  | [], pv, xs, bs, vs, h, hr, hl, hp => by
    obtain rfl : pv = [] := List.eq_nil_of_length_eq_zero (by simpa using hl.symm)
    simp only [fillA, Option.some.injEq] at h
    subst h
    exact ⟨vs, rfl, hr⟩
  | (i, a) :: pa, pv, xs, bs, vs, h, hr, hl, hp => by
    cases pv with
    | nil => simp at hl
    | cons q pv =>
      obtain ⟨i', v⟩ := q
      obtain ⟨e, hR⟩ := hp 0 (i, a) (i', v) rfl rfl
      simp only at e hR
      subst e
      unfold fillA at h
      obtain ⟨⟨off, size⟩, hpl, h⟩ := Option.bind_eq_some_iff.1 h
      simp only at h
      obtain ⟨l, hcl, h⟩ := Option.bind_eq_some_iff.1 h
      obtain ⟨u, hgd, h⟩ := Option.bind_eq_some_iff.1 h
      have hgd := guardO_some hgd
      rw [Bool.and_eq_true, Nat.ble_eq] at hgd
      have hlen := Nat.eq_of_beq_eq_true hgd.1
      have hL := RL.of hcl hR
      have hs : v.cells.size = size := by rw [← hL.len, hlen]
      have hfit : ¬ (off + v.cells.size > vs.size) := by rw [hs, ← hr.len]; omega
      have hset := RL.setR v.cells.toList l 0 off hr (by simpa using hL.len) (fun u hu => by
        obtain ⟨j, hj⟩ := List.getElem?_of_mem hu
        exact hL.one j u (by simpa using hj)) (fun j b u hb hu => hL.rep j b u hb (by simpa using hu))
      obtain ⟨us, h1, h2⟩ := run_fillA pa pv h hset (by simpa using hl) (fun j p q hp' hq' => hp (j + 1) p q (by simpa using hp') (by simpa using hq'))
      refine ⟨us, ?_, h2⟩
      unfold Instr.fill
      simp only [hpl]
      rw [if_neg (by simp [hs]; omega)]
      rw [← h1]
      congr 1
      rw [← Array.foldl_toList, Array.toList_zipIdx]
end
end Go.Proofs.Ytdbnfdcjibgikaa.Rx
