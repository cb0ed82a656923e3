/- A contract whose answer is from then on only read. -/
import Derived.Test.YtdbnfdcjibgikaaRx25
set_option linter.unusedVariables false
set_option linter.unusedSimpArgs false
namespace Go.Proofs.Ytdbnfdcjibgikaa.Rx
open Go.RowKit
section
variable {P : Program}
/-- what stays of a context when its own blocks are forgotten -/
theorem forget_rep {cx : Cx} (hc : CRep cx) : CRep ⟨cx.w, cx.R, fun _ => none, fun i => ([] : List Blk)[i]?, cx.B⟩ :=
  ⟨fun id b hb => (by simp at hb), fun _ _ _ _ _ _ _ h1 _ => (by cases h1), hc.rlt, hc.blt⟩
theorem freeze_all {cx : Cx} {H : List Blk} (hc : CRep cx) (hH : cx.H = fun i => H[i]?) (ids : List Nat) : ∃ cx1, CRep cx1 ∧ cx1.w = cx.w ∧ Stab cx cx1 ∧
    ∀ a v, Rep cx a v → (∀ id ∈ idsF a, id ∈ ids) → RepP cx1.w cx1.R (frz (fun i => H[i]?) a) v := by
  obtain ⟨cx1, e1, hc1, hs1, e2, e3, e4, e5⟩ := frzIds_ok ids hc
  refine ⟨cx1, hc1, e2, hs1, fun a v hr hi => frz_rep hc1 (fun id b hb => by rw [e1, hH]; exact frzIds_gen _ _ _ _ hb) (hr.stab hc hs1) fun id hid b g c hb hg => ?_⟩
  obtain ⟨b', hb'⟩ := Option.isSome_iff_exists.1 (e5 id (by rw [hb]; rfl))
  rw [e3] at hg
  exact e4 id b' g c (hi id hid) hb' hg
theorem PureC.frozen {f : FuncId} {args : List AV} {a : AV} {H : List Blk} (h : PureC P f args a H) : PureC P f args (frz (fun i => H[i]?) a) [] := by
  intro w R vs hR hl ha
  refine (h w R vs hR hl ha).mono ?_
  rintro e w' ⟨z, cx, rfl, rfl, k1, k2, k3, k4, k5, k6, k7⟩
  obtain ⟨cx1, hc1, e2, hs1, hfr⟩ := freeze_all k2 k1 (idsF a)
  refine ⟨z, ⟨cx1.w, cx1.R, fun _ => none, fun i => ([] : List Blk)[i]?, cx1.B⟩, rfl, e2.symm, rfl, forget_rep hc1, by rw [hs1.ext.B]; exact k3, fun g hg => hs1.ext.R g (k4 g hg), fun g hg => ?_, k6, .pure (hfr a z k7 fun _ h => h)⟩
  rcases hs1.ext.Rn g hg with h1 | h1
  · exact k5 g h1
  · rw [k3] at h1; exact .inr h1
theorem PureC.frozen2 {f : FuncId} {args : List AV} {a b : AV} {H : List Blk} (h : PureC P f args (.tup [a, b]) H) : PureC P f args (.tup [frz (fun i => H[i]?) a, frz (fun i => H[i]?) b]) [] := by
  intro w R vs hR hl ha
  refine (h w R vs hR hl ha).mono ?_
  rintro e w' ⟨z, cx, rfl, rfl, k1, k2, k3, k4, k5, k6, k7⟩
  obtain ⟨cx1, hc1, e2, hs1, hfr⟩ := freeze_all k2 k1 (idsF a ++ idsF b)
  have hz : RepP cx1.w cx1.R (.tup [frz (fun i => H[i]?) a, frz (fun i => H[i]?) b]) z := by
    obtain ⟨us, rfl, h1, h2⟩ : ∃ us : Array Value, z = .tuple us ∧ 2 = us.size ∧ ∀ (j : Nat) x v, [a, b][j]? = some x → us[j]? = some v → Rep cx x v := by
      cases k7 with
      | pure h => cases h with
        | tup hl h => exact ⟨_, rfl, hl, fun j x v h1 h2 => .pure (h j x v h1 h2)⟩
      | tup hl h => exact ⟨_, rfl, hl, h⟩
    refine .tup h1 fun j x v hx hv => ?_
    match j, hx with
    | 0, hx =>
      simp only [List.getElem?_cons_zero, Option.some.injEq] at hx
      subst hx
      exact hfr a v (h2 0 a v rfl hv) fun _ h => List.mem_append_left _ h
    | 1, hx =>
      simp only [List.getElem?_cons_succ, List.getElem?_cons_zero, Option.some.injEq] at hx
      subst hx
      exact hfr b v (h2 1 b v rfl hv) fun _ h => List.mem_append_right _ h
    | j + 2, hx => simp at hx
  refine ⟨z, ⟨cx1.w, cx1.R, fun _ => none, fun i => ([] : List Blk)[i]?, cx1.B⟩, rfl, e2.symm, rfl, forget_rep hc1, by rw [hs1.ext.B]; exact k3, fun g hg => hs1.ext.R g (k4 g hg), fun g hg => ?_, k6, .pure hz⟩
  rcases hs1.ext.Rn g hg with h1 | h1
  · exact k5 g h1
  · rw [k3] at h1; exact .inr h1
/-- a row of numbers that is read, as the law's argument is -/
theorem RepP.ofRd {w : World} {A : Option Addr} {c : Nat} {k : IntKind} {z : List Int} (hr : Rd w w.heap.size A (z.map (Value.int k))) (hc : z.length ≤ c) (hm : c ≤ maxLen) : RepP w (fun g => g < w.heap.size) (.row 1 z.length fun i _ => .int k (z.getD i 0)) (.slice A z.length c) := by
  refine .row A c (fun i _ => .int k (z.getD i 0)) hc hm (fun h => ?_) (fun _ _ _ _ => rfl) (fun _ _ _ _ => .int _ _)
  obtain ⟨ad, rfl, hb, hcell⟩ := hr (by rw [List.length_map]; omega)
  obtain ⟨g, o, sp⟩ := ad
  have h0 := hcell 0 _ (List.getElem?_eq_getElem (by rw [List.length_map]; omega))
  rw [adr_zero] at h0
  have hsp : sp = none := by
    unfold World.cell? at h0
    split at h0
    · cases sp with
      | none => rfl
      | some x => simp at h0
    · cases h0
  subst hsp
  refine ⟨g, o, rfl, hb, fun i hi j hj => ?_⟩
  have h1 := hcell i (.int k (z.getD i 0)) (by simp [List.getD, hi])
  rw [show Addr.add ⟨g, o, none⟩ i = ⟨g, o + i, none⟩ from adr_mk g o i] at h1
  rw [show o + (i * 1 + j) = o + i by omega]
  exact h1
/-- a contract that answers a bool, as a law's walk -/
theorem PureC.lawB {f : FuncId} {args : List AV} {b : Bool} (h : PureC P f args (.bool b) []) {W : World} {R : Nat → Prop} {vs : Array Value} (hR : ∀ g, R g → g < W.heap.size) (hl : args.length = vs.size) (ha : ∀ (j : Nat) a v, args[j]? = some a → vs[j]? = some v → RepP W R a v) : Calls P f vs W (RetB (.bool b) W) := by
  refine (h W R vs hR hl ha).mono ?_
  rintro e w' ⟨z, cx, rfl, rfl, _, _, _, _, _, hb, hz⟩
  refine ⟨?_, hb⟩
  cases hz with
  | pure h => cases h; rfl
end
end Go.Proofs.Ytdbnfdcjibgikaa.Rx
