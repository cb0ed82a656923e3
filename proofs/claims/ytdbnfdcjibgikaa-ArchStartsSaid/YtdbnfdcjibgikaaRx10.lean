/- New blocks, and blocks that are written no more. -/
import Derived.Test.YtdbnfdcjibgikaaRx9
import Derived.Great.BuildSlice
import Derived.Laws.MakeOwn
set_option linter.unusedVariables false
set_option linter.unusedSimpArgs false
namespace Go.Proofs.Ytdbnfdcjibgikaa.Rx
open Go.RowKit
theorem upd_same {α : Type} (f : Nat → α) (i : Nat) (v : α) : upd f i v i = v := by simp [upd]
theorem upd_other {α : Type} (f : Nat → α) (i j : Nat) (v : α) (h : j ≠ i) : upd f i v j = f j := by
  have : Nat.beq j i = false := by
    cases hb : Nat.beq j i with
    | false => rfl
    | true => exact absurd (Nat.eq_of_beq_eq_true hb) h
  simp [upd, this]
section
variable {cx cx' : Cx}
/-- a block that is not touched stays as it is known -/
theorem HB.keep {id : Nat} {b : Blk} (h : HB cx id b) (hc : CRep cx) (hs : Stab cx cx') (hφ : cx'.φ id = cx.φ id) (hw : ∀ g c, cx.φ id = some (g, c) → cx'.w.heap[g]? = cx.w.heap[g]?) (hR : ∀ g c, cx.φ id = some (g, c) → cx'.R g → cx.R g) : HB cx' id b := by
  unfold HB at *
  cases hbc : b.c with
  | box cs =>
    rw [hbc] at h
    obtain ⟨g, cur, h1, h2, h3, h4, h5, h6⟩ := h
    refine ⟨g, cur, hφ.trans h1, (hw g _ h1).trans h2, h3, fun j a ha => ?_, by rw [hs.ext.B]; exact h5, ?_⟩
    · obtain ⟨u, hu, ho, hr⟩ := h4 j a ha
      exact ⟨u, hu, ho, hr.stab hc hs⟩
    · cases hf : b.frz with
      | true => rw [hf] at h6; exact hs.ext.R _ h6
      | false => rw [hf] at h6; exact fun hx => h6 (hR g _ h1 hx)
  | rows m n f =>
    rw [hbc] at h
    rcases h with ⟨h1, h2⟩ | ⟨g, cap, cur, h1, h2, h3, h4, h5, h6, h7, h8⟩
    · exact .inl ⟨hφ.trans h1, h2⟩
    · refine .inr ⟨g, cap, cur, hφ.trans h1, (hw g _ h1).trans h2, h3, h4, h5, fun i hi j hj => ?_, by rw [hs.ext.B]; exact h7, ?_⟩
      · obtain ⟨u, hu, ho, hr⟩ := h6 i hi j hj
        exact ⟨u, hu, ho, hr.ext hc hs.ext⟩
      · cases hf : b.frz with
        | true => rw [hf] at h8; exact hs.ext.R _ h8
        | false => rw [hf] at h8; exact fun hx => h8 (hR g _ h1 hx)
/-- where a block lies -/
theorem HB.at_ {id : Nat} {b : Blk} (h : HB cx id b) {g c : Nat} (hg : cx.φ id = some (g, c)) : g < cx.w.heap.size ∧ cx.B ≤ g := by
  unfold HB at h
  cases hbc : b.c with
  | box cs =>
    rw [hbc] at h
    obtain ⟨g', cur, h1, h2, _, _, h5, _⟩ := h
    rw [hg] at h1
    cases h1
    exact ⟨(Array.getElem?_eq_some_iff.1 h2).1, h5⟩
  | rows m n f =>
    rw [hbc] at h
    rcases h with ⟨h1, h2⟩ | ⟨g', cap, cur, h1, h2, _, _, _, _, h7, _⟩
    · rw [hg] at h1; cases h1
    · rw [hg] at h1
      cases h1
      exact ⟨(Array.getElem?_eq_some_iff.1 h2).1, h7⟩
theorem sameShape.rfl' (b : Blk) : sameShape b b := by unfold sameShape; cases b.c <;> exact ⟨_, rfl⟩
/-- one block more -/
def Cx.add (cx : Cx) (cur : Array Value) (id cap : Nat) (b : Blk) : Cx := ⟨cx.w.alloc (.cells cur b.e), cx.R, upd cx.φ id (some (cx.w.heap.size, cap)), upd cx.H id (some b), cx.B⟩
theorem stab_add (hc : CRep cx) {cur : Array Value} {id cap : Nat} {b : Blk} (hn : cx.H id = none) : Stab cx (cx.add cur id cap b) := by
  refine ⟨⟨rfl, fun _ h => h, fun _ h => .inl h, rfl, rfl, rfl, by simp [Cx.add], fun g hg _ => ?_⟩, fun i x hx => ?_, fun i x y hx hy => ?_⟩
  · show ((cx.w.alloc _).heap)[g]? = _
    exact heap_alloc_old _ _ hg
  · have hne : i ≠ id := fun e => by rw [e, hn] at hx; cases hx
    refine ⟨x, ?_, fun _ => ⟨?_, sameShape.rfl' x⟩, fun _ => rfl⟩
    · show upd cx.H id (some b) i = some x
      rw [upd_other _ _ _ _ hne]; exact hx
    · show upd cx.φ id _ i = _
      rw [upd_other _ _ _ _ hne]
  · have hne : i ≠ id := fun e => by rw [e, hn] at hx; cases hx
    have : (cx.add cur id cap b).H i = cx.H i := by show upd cx.H id (some b) i = _; rw [upd_other _ _ _ _ hne]
    rw [this, hx] at hy
    cases hy
    exact Nat.le_refl _
theorem crep_add (hc : CRep cx) {cur : Array Value} {id cap : Nat} {b : Blk} (hn : cx.H id = none) (hb : HB (cx.add cur id cap b) id b) : CRep (cx.add cur id cap b) := by
  have hst := stab_add (cur := cur) (cap := cap) (b := b) hc hn
  refine ⟨fun i x hx => ?_, fun i j g c c' hi hj h1 h2 => ?_, fun g hg => Nat.lt_of_lt_of_le (hc.rlt g hg) hst.ext.size, Nat.le_trans hc.blt hst.ext.size⟩
  · by_cases e : i = id
    · subst e
      have : x = b := by
        have h2 : upd cx.H i (some b) i = some x := hx
        rw [upd_same] at h2
        cases h2; rfl
      subst this
      exact hb
    · have hx' : cx.H i = some x := by
        have h2 : upd cx.H id (some b) i = some x := hx
        rwa [upd_other _ _ _ _ e] at h2
      have hold := hc.hb i x hx'
      refine hold.keep hc hst (by show upd cx.φ id _ i = _; rw [upd_other _ _ _ _ e]) (fun g c hg => heap_alloc_old _ _ (hold.at_ hg).1) (fun g c hg h => h)
  · have hcase : ∀ k g c, (cx.add cur id cap b).φ k = some (g, c) → ((cx.add cur id cap b).H k).isSome = true → (k = id ∧ g = cx.w.heap.size) ∨ (k ≠ id ∧ cx.φ k = some (g, c) ∧ ∃ x, cx.H k = some x) := by
      intro k g c hk hks
      by_cases e : k = id
      · left
        subst e
        have h2 : upd cx.φ k (some (cx.w.heap.size, cap)) k = some (g, c) := hk
        rw [upd_same] at h2
        cases h2
        exact ⟨rfl, rfl⟩
      · right
        have h2 : upd cx.φ id (some (cx.w.heap.size, cap)) k = some (g, c) := hk
        rw [upd_other _ _ _ _ e] at h2
        have h3 : (upd cx.H id (some b) k).isSome = true := hks
        rw [upd_other _ _ _ _ e] at h3
        exact ⟨e, h2, Option.isSome_iff_exists.1 h3⟩
    rcases hcase i g c h1 hi with ⟨e1, e2⟩ | ⟨e1, e2, x, e3⟩ <;> rcases hcase j g c' h2 hj with ⟨f1, f2⟩ | ⟨f1, f2, y, f3⟩
    · rw [e1, f1]
    · have := ((hc.hb j y f3).at_ f2).1; omega
    · have := ((hc.hb i x e3).at_ e2).1; omega
    · exact hc.inj i j g c c' (by rw [e3]; rfl) (by rw [f3]; rfl) e2 f2
/-- numbers that are new -/
def NewIds (H : Nat → Option Blk) (next : Nat) (h : Nat → Option Blk) (next' : Nat) : Prop := next ≤ next' ∧ ∀ i, (h i).isSome = true → (H i).isSome = true ∨ (next ≤ i ∧ i < next')
theorem NewIds.lt {H h : Nat → Option Blk} {next next' : Nat} (h1 : NewIds H next h next') (h2 : ∀ i, (H i).isSome = true → i < next) : ∀ i, (h i).isSome = true → i < next' := fun i hi => by
  rcases h1.2 i hi with h | h
  · exact Nat.lt_of_lt_of_le (h2 i h) h1.1
  · exact h.2
theorem NewIds.same {H h : Nat → Option Blk} {next : Nat} (h1 : ∀ i, (h i).isSome = true → (H i).isSome = true) : NewIds H next h next := ⟨Nat.le_refl _, fun i hi => .inl (h1 i hi)⟩
theorem new_upd {H : Nat → Option Blk} {next : Nat} {b : Option Blk} : NewIds H next (upd H next b) (next + 1) := by
  refine ⟨Nat.le_succ _, fun i hi => ?_⟩
  by_cases e : i = next
  · exact .inr (by omega)
  · rw [upd_other _ _ _ _ e] at hi
    exact .inl hi
theorem none_next {H : Nat → Option Blk} {next : Nat} (h : ∀ i, (H i).isSome = true → i < next) : H next = none := by
  cases hn : H next with
  | none => rfl
  | some b => have := h next (by rw [hn]; rfl); omega
/-- a new variable -/
theorem add_box (hc : CRep cx) {cur : Array Value} {id : Nat} {e : TypeId} {cs : List AV} (hn : cx.H id = none) (hL : RL cx cs cur) :
    let cx' := cx.add cur id 1 ⟨0, false, e, .box cs⟩
    CRep cx' ∧ Stab cx cx' ∧ Rep cx' (.bptr id 0) (.pointer (some ⟨cx.w.heap.size, 0, none⟩)) := by
  intro cx'
  have hst : Stab cx cx' := stab_add hc hn
  have hφ : cx'.φ id = some (cx.w.heap.size, 1) := by show upd cx.φ id _ id = _; rw [upd_same]
  have hH : cx'.H id = some ⟨0, false, e, .box cs⟩ := by show upd cx.H id _ id = _; rw [upd_same]
  refine ⟨crep_add hc hn ?_, hst, .bptr hH rfl hφ⟩
  refine ⟨cx.w.heap.size, cur, hφ, heap_alloc_new _ _, hL.len.symm, fun j a ha => ?_, hc.blt, fun h => ?_⟩
  · have hlt : j < cur.size := by rw [← hL.len]; exact (List.getElem?_eq_some_iff.1 ha).1
    exact ⟨cur[j], by simp [hlt], hL.one j _ (by simp [hlt]), (hL.rep j a _ ha (by simp [hlt])).stab hc hst⟩
  · have := hc.rlt _ h
    omega
/-- a new row -/
theorem add_rows (hc : CRep cx) {cur : Array Value} {id m n cap : Nat} {e : TypeId} {f : Nat → Nat → AV} (hn : cx.H id = none) (hsz : cur.size = cap * m) (hcap : n ≤ cap) (hmx : cap ≤ maxLen)
    (hf : ∀ i, i < n → ∀ j, j < m → ∃ u, cur[i * m + j]? = some u ∧ u.oneCell' = true ∧ RepP cx.w cx.R (f i j) u) :
    let cx' := cx.add cur id cap ⟨0, false, e, .rows m n f⟩
    CRep cx' ∧ Stab cx cx' ∧ Rep cx' (.own id 0 m 0 n) (.slice (some ⟨cx.w.heap.size, 0, none⟩) n cap) := by
  intro cx'
  have hst : Stab cx cx' := stab_add hc hn
  have hφ : cx'.φ id = some (cx.w.heap.size, cap) := by show upd cx.φ id _ id = _; rw [upd_same]
  have hH : cx'.H id = some ⟨0, false, e, .rows m n f⟩ := by show upd cx.H id _ id = _; rw [upd_same]
  refine ⟨crep_add hc hn ?_, hst, .own hH (Nat.le_refl _) rfl fun _ => ⟨n, f, rfl, by omega, .inr ⟨_, cap, hφ, by simp⟩⟩⟩
  refine .inr ⟨cx.w.heap.size, cap, cur, hφ, heap_alloc_new _ _, hsz, hcap, hmx, fun i hi j hj => ?_, hc.blt, fun h => ?_⟩
  · obtain ⟨u, hu, ho, hr⟩ := hf i hi j hj
    exact ⟨u, hu, ho, hr.ext hc hst.ext⟩
  · have := hc.rlt _ h
    omega
/-- a block that is written no more -/
def Cx.frz (cx : Cx) (id : Nat) (b : Blk) : Cx := ⟨cx.w, fun g => cx.R g ∨ ∃ c, cx.φ id = some (g, c), cx.φ, upd cx.H id (some { b with frz := true }), cx.B⟩
theorem frz_ok (hc : CRep cx) {id : Nat} {b : Blk} (hb : cx.H id = some b) : CRep (cx.frz id b) ∧ Stab cx (cx.frz id b) := by
  have hbid := hc.hb id b hb
  have hst : Stab cx (cx.frz id b) := by
    refine ⟨⟨rfl, fun _ h => .inl h, fun g h => h.imp (fun x => x) fun ⟨c, hg⟩ => (hbid.at_ hg).2, rfl, rfl, rfl, Nat.le_refl _, fun _ _ _ => rfl⟩, fun i x hx => ?_, fun i x y hx hy => ?_⟩
    · by_cases e : i = id
      · subst e
        rw [hb] at hx
        cases hx
        exact ⟨{ b with frz := true }, by show upd cx.H i _ i = _; rw [upd_same], fun _ => ⟨rfl, by unfold sameShape; cases b.c <;> exact ⟨_, rfl⟩⟩, fun _ => rfl⟩
      · exact ⟨x, by show upd cx.H id _ i = _; rw [upd_other _ _ _ _ e]; exact hx, fun _ => ⟨rfl, sameShape.rfl' x⟩, fun _ => rfl⟩
    · by_cases e : i = id
      · subst e
        rw [hb] at hx
        cases hx
        have hy' : upd cx.H i (some { b with frz := true }) i = some y := hy
        rw [upd_same] at hy'
        cases hy'
        exact Nat.le_refl _
      · have hy' : upd cx.H id (some { b with frz := true }) i = some y := hy
        rw [upd_other _ _ _ _ e, hx] at hy'
        cases hy'
        exact Nat.le_refl _
  have hsome : ∀ i, ((cx.frz id b).H i).isSome = true → ∃ x, cx.H i = some x := by
    intro i hi
    by_cases e : i = id
    · exact ⟨b, by rw [e]; exact hb⟩
    · have : (upd cx.H id (some { b with frz := true }) i).isSome = true := hi
      rw [upd_other _ _ _ _ e] at this
      exact Option.isSome_iff_exists.1 this
  refine ⟨⟨fun i x hx => ?_, fun i j g c c' hi hj h1 h2 => ?_, fun g hg => ?_, hc.blt⟩, hst⟩
  · by_cases e : i = id
    · subst e
      have hx' : upd cx.H i (some { b with frz := true }) i = some x := hx
      rw [upd_same] at hx'
      cases hx'
      have := hbid
      unfold HB at this ⊢
      cases hbc : b.c with
      | box cs =>
        rw [hbc] at this
        obtain ⟨g, cur, h1, h2, h3, h4, h5, h6⟩ := this
        refine ⟨g, cur, h1, h2, h3, fun j a ha => ?_, h5, .inr ⟨_, h1⟩⟩
        obtain ⟨u, hu, ho, hr⟩ := h4 j a ha
        exact ⟨u, hu, ho, hr.stab hc hst⟩
      | rows m n f =>
        rw [hbc] at this
        rcases this with ⟨h1, h2⟩ | ⟨g, cap, cur, h1, h2, h3, h4, h5, h6, h7, h8⟩
        · exact .inl ⟨h1, h2⟩
        · refine .inr ⟨g, cap, cur, h1, h2, h3, h4, h5, fun i hi j hj => ?_, h7, .inr ⟨_, h1⟩⟩
          obtain ⟨u, hu, ho, hr⟩ := h6 i hi j hj
          exact ⟨u, hu, ho, hr.ext hc hst.ext⟩
    · have hx' : cx.H i = some x := by
        have h2 : upd cx.H id (some { b with frz := true }) i = some x := hx
        rwa [upd_other _ _ _ _ e] at h2
      refine (hc.hb i x hx').keep hc hst rfl (fun _ _ _ => rfl) (fun g c hg h => ?_)
      rcases h with h | ⟨c', h⟩
      · exact h
      · exact absurd (hc.inj i id g c c' (by rw [hx']; rfl) (by rw [hb]; rfl) hg h) e
  · obtain ⟨x, hx⟩ := hsome i hi
    obtain ⟨y, hy⟩ := hsome j hj
    exact hc.inj i j g c c' (by rw [hx]; rfl) (by rw [hy]; rfl) h1 h2
  · rcases hg with hg | ⟨c, hg⟩
    · exact hc.rlt g hg
    · exact (hbid.at_ hg).1
theorem frzIds_ok : ∀ (l : List Nat) {cx : Cx} (hc : CRep cx), ∃ cx', cx'.H = frzIds cx.H l ∧ CRep cx' ∧ Stab cx cx' ∧ cx'.w = cx.w ∧ cx'.φ = cx.φ ∧ (∀ id b g c, id ∈ l → cx.H id = some b → cx.φ id = some (g, c) → cx'.R g) ∧ (∀ i, (cx'.H i).isSome = true → (cx.H i).isSome = true)
  | [], cx, hc => ⟨cx, rfl, hc, Stab.refl cx, rfl, rfl, fun _ _ _ _ h => by simp at h, fun _ h => h⟩
  | id :: l, cx, hc => by
    cases hb : cx.H id with
    | none =>
      obtain ⟨cx', h1, h2, h3, h4, h5, h6, h7⟩ := frzIds_ok l hc
      refine ⟨cx', by rw [h1]; simp [frzIds, hb], h2, h3, h4, h5, fun i b g c hi hib hg => ?_, h7⟩
      rcases List.mem_cons.1 hi with rfl | hi
      · rw [hb] at hib; cases hib
      · exact h6 i b g c hi hib hg
    | some b =>
      obtain ⟨hc1, hs1⟩ := frz_ok hc hb
      obtain ⟨cx', h1, h2, h3, h4, h5, h6, h7⟩ := frzIds_ok l hc1
      refine ⟨cx', by rw [h1]; simp [frzIds, hb, Cx.frz], h2, hs1.trans h3, h4, h5, fun i x g c hi hix hg => ?_, fun i hi => ?_⟩
      · rcases List.mem_cons.1 hi with rfl | hi
        · exact h3.ext.R g (.inr ⟨c, hg⟩)
        · by_cases e : i = id
          · exact h3.ext.R g (.inr ⟨c, by rw [← e]; exact hg⟩)
          · exact h6 i x g c hi (by show upd cx.H id _ i = _; rw [upd_other _ _ _ _ e]; exact hix) hg
      · have := h7 i hi
        by_cases e : i = id
        · rw [e, hb]; rfl
        · have h2 : (upd cx.H id (some { b with frz := true }) i).isSome = true := this
          rwa [upd_other _ _ _ _ e] at h2
theorem Rep.base {cx : Cx} {a : AV} {v : Value} (h : Rep cx a v) (hb : baseA a = true) : RepP cx.w cx.R a v := by
  cases a <;> first | (cases h with | pure h => exact h) | cases hb
/-- a slice of the call's own, its block written no more, is a row that is read -/
theorem frz1_rep {cx : Cx} (hc : CRep cx) {H0 : Nat → Option Blk} (hH : ∀ id b, H0 id = some b → ∃ b', cx.H id = some b' ∧ b'.gen = b.gen ∧ b'.c = b.c) {a : AV} {v : Value} (h : Rep cx a v) (hR : ∀ id ∈ ids1 a, ∀ b g c, cx.H id = some b → cx.φ id = some (g, c) → cx.R g) : RepP cx.w cx.R (frz1 H0 a) v := by
  cases a with
  | own id gen m off len =>
    unfold frz1
    simp only
    split
    · rename_i g' fz e m' n f heq
      obtain ⟨b', hb', e1, e2⟩ := hH id _ heq
      simp only at e1 e2
      cases hq : Nat.beq gen g' && Nat.beq m m' with
      | false => exact .junk _
      | true =>
        simp only [cond_true]
        rw [Bool.and_eq_true] at hq
        have q1 := Nat.eq_of_beq_eq_true hq.1
        have q2 := Nat.eq_of_beq_eq_true hq.2
        subst q2
        obtain ⟨b, hb, hle, hO⟩ := h.own_inv
        rw [hb'] at hb
        cases hb
        obtain ⟨n', f', k1, k2, k3⟩ := hO (by omega)
        rw [e2] at k1
        cases k1
        rcases k3 with ⟨p1, rfl, rfl, rfl⟩ | ⟨gg, cap, p1, rfl⟩
        · exact .row _ _ (fun _ _ => undef) (Nat.le_refl _) (Nat.zero_le _) (fun h => by simp at h) (fun i hi => by omega) (fun i hi => by omega)
        · obtain ⟨cur, r1, r2, r3, r4, r5, r6, r7⟩ := rows_of hc hb' e2 p1
          have hRg := hR id (by simp [ids1]) _ _ _ hb' p1
          refine .row _ _ (fun i j => (cur[(i + off) * m + j]?).getD undef) (by omega) (by omega) (fun _ => ⟨gg, off * m, rfl, hRg, fun i hi j hj => ?_⟩) (fun i hi j hj => ?_) (fun i hi j hj => ?_)
          · obtain ⟨u, hu, ho, hr⟩ := r5 (i + off) (by omega) j hj
            rw [cell_of_row _ _ _ _ _ _ r1, show off * m + (i * m + j) = (i + off) * m + j by rw [Nat.add_mul]; omega, hu]
            rfl
          · obtain ⟨u, hu, ho, hr⟩ := r5 (i + off) (by omega) j hj
            simp only [hu, Option.getD_some]
            exact ho
          · obtain ⟨u, hu, ho, hr⟩ := r5 (i + off) (by omega) j hj
            simp only [hu, Option.getD_some]
            exact hr
    · exact .junk _
  | clo f caps =>
    cases caps with
    | nil =>
      obtain ⟨vs, rfl, hl, _⟩ := h.clo_inv
      have : vs = #[] := Array.size_eq_zero_iff.1 (by rw [← hl]; rfl)
      subst this
      exact .clo rfl fun j a v ha _ => by simp at ha
    | cons c cs => exact .junk _
  | bptr id off =>
    unfold frz1
    simp only
    split
    · rename_i g' fz e cs heq
      obtain ⟨b', hb', e1, e2⟩ := hH id _ heq
      simp only at e2
      cases hq : cs.all baseA with
      | false => exact .junk _
      | true =>
        simp only [cond_true]
        obtain ⟨g, cap, b, k1, k2, k3, rfl⟩ := h.bptr_inv
        obtain ⟨g2, cur, r1, r2, r3, r4, r5⟩ := box_of hc hb' e2
        rw [k3] at r1
        cases r1
        have hRg := hR id (by simp [ids1]) _ _ _ hb' k3
        have hget : ∀ q, q < cs.length → ∃ u, cur[q]? = some u ∧ u.oneCell' = true ∧ RepP cx.w cx.R (cs.getD q .junk) u := fun q hq' => by
          have hlt : q < cur.size := by rw [← r3.len]; exact hq'
          refine ⟨cur[q], Array.getElem?_eq_getElem hlt, r3.one _ _ (Array.getElem?_eq_getElem hlt), ?_⟩
          rw [List.getD_eq_getElem?_getD, List.getElem?_eq_getElem hq']
          exact (r3.rep _ _ _ (List.getElem?_eq_getElem hq') (Array.getElem?_eq_getElem hlt)).base (List.all_eq_true.1 hq _ (List.getElem_mem hq'))
        have := RepP.rptr (w := cx.w) (R := cx.R) (m := cs.length) (j := off) (g := g) (o := 0) (cs := fun q => cs.getD q .junk) hRg (fun q => (cur[q]?).getD undef) (fun q hq' => by
            obtain ⟨u, hu, _, _⟩ := hget q hq'
            rw [cell_of_row _ _ _ _ _ _ r2, Nat.zero_add, hu]
            rfl) (fun q hq' => by
            obtain ⟨u, hu, ho, _⟩ := hget q hq'
            simp only [hu, Option.getD_some]
            exact ho) (fun q hq' => by
            obtain ⟨u, hu, _, hr⟩ := hget q hq'
            simp only [hu, Option.getD_some]
            exact hr)
        rwa [Nat.zero_add] at this
    · exact .junk _
  | eptr | agg | tup => exact .junk _
  | int | bool | str | nilp | nils | row | val | junk | rptr => cases h with | pure h => exact h
theorem frz_rep {cx : Cx} (hc : CRep cx) {H0 : Nat → Option Blk} (hH : ∀ id b, H0 id = some b → ∃ b', cx.H id = some b' ∧ b'.gen = b.gen ∧ b'.c = b.c) {a : AV} {v : Value} (h : Rep cx a v) (hR : ∀ id ∈ idsF a, ∀ b g c, cx.H id = some b → cx.φ id = some (g, c) → cx.R g) : RepP cx.w cx.R (frz H0 a) v := by
  by_cases hg : ∃ cs, a = .agg cs
  · obtain ⟨cs, rfl⟩ := hg
    obtain ⟨vs, rfl, h1, h2, h3⟩ := h.agg_inv
    refine .agg (by simpa using h1) h2 fun j x v hx hv => ?_
    simp only [List.getElem?_map] at hx
    obtain ⟨y, hy, rfl⟩ := Option.map_eq_some_iff.1 hx
    exact frz1_rep hc hH (h3 j y v hy hv) fun id hid => hR id (by
      simp only [idsF, List.mem_flatMap]
      exact ⟨y, List.mem_of_getElem? hy, hid⟩)
  · have e1 : frz H0 a = frz1 H0 a := by cases a <;> first | rfl | exact absurd ⟨_, rfl⟩ hg
    have e2 : idsF a = ids1 a := by cases a <;> first | rfl | exact absurd ⟨_, rfl⟩ hg
    rw [e1]
    exact frz1_rep hc hH h (by rw [← e2]; exact hR)
theorem frzIds_gen : ∀ (l : List Nat) (H : Nat → Option Blk) (id : Nat) (b : Blk), H id = some b → ∃ b', frzIds H l id = some b' ∧ b'.gen = b.gen ∧ b'.c = b.c
  | [], H, id, b, h => ⟨b, h, rfl, rfl⟩
  | i :: l, H, id, b, h => by
    unfold frzIds
    cases hi : H i with
    | none => exact frzIds_gen l H id b h
    | some x =>
      simp only
      by_cases e : id = i
      · subst e
        rw [hi] at h
        cases h
        obtain ⟨b', h1, h2, h3⟩ := frzIds_gen l (upd H id (some { b with frz := true })) id { b with frz := true } (upd_same _ _ _)
        exact ⟨b', h1, h2, h3⟩
      · exact frzIds_gen l _ id b (by rw [upd_other _ _ _ _ e]; exact h)
end
end Go.Proofs.Ytdbnfdcjibgikaa.Rx
