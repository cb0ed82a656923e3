/- Every order comes to the same. -/
import Derived.Test.YtdbnfdcjibgikaaRx20
set_option linter.unusedVariables false
set_option linter.unusedSimpArgs false
namespace Go.Proofs.Ytdbnfdcjibgikaa.Rx
open Go.RowKit
section
variable {P : Program}
/-- the run in the order of the text -/
structure SeqD (P : Program) (md : Bool) (call : CallF) (nt : Nat) (ops : Array Oper) (st : St) (D : Nat → DS) : Prop where
  st0 : (D 0).st = st
  hv0 : (D 0).hv = []
  al0 : (D 0).al = []
  wr0 : (D 0).wr = false
  step : ∀ j, j < ops.size → ∃ q, stepD P md call nt st.next ops (befs ops) j (D j) = some (D (j + 1), q) ∧ ∀ p ∈ q, p
  lt : ∀ i, (st.heap i).isSome = true → i < st.next
def hvy (D : Nat → DS) (j : Nat) : Prop := (D (j + 1)).hv = j :: (D j).hv
variable {md : Bool} {call : CallF} {nt : Nat} {ops : Array Oper} {st : St} {D : Nat → DS}
theorem SeqD.light (h : SeqD P md call nt ops st D) {j : Nat} (hj : j < ops.size) : hvy D j ∨ ¬ hvy D j ∧ Light (D j) (D (j + 1)) := by
  obtain ⟨q, hq, _⟩ := h.step j hj
  obtain ⟨o, g, _, _, _, h1⟩ := stepD_inv hq
  have key : Light (D j) (D (j + 1)) → hvy D j ∨ ¬ hvy D j ∧ Light (D j) (D (j + 1)) := fun hl => .inr ⟨fun hh => by
    unfold hvy at hh
    rw [hl.hv] at hh
    have := congrArg List.length hh
    simp at this, hl⟩
  rcases h1 with ⟨_, _, hl, _⟩ | ⟨_, r, _, _, _, ⟨_, hl⟩ | ⟨_, hv, _⟩⟩
  · exact key hl
  · exact key hl
  · exact .inl hv
theorem SeqD.env_step (h : SeqD P md call nt ops st D) {j : Nat} {o : Oper} (ho : ops[j]? = some o) : ∃ v, (D (j + 1)).st.env = putE (D j).st.env o.dst v := by
  have hj : j < ops.size := (Array.getElem?_eq_some_iff.1 ho).1
  obtain ⟨q, hq, _⟩ := h.step j hj
  obtain ⟨o', g, h0, _, _, h1⟩ := stepD_inv hq
  obtain rfl : o = o' := by rw [ho] at h0; exact Option.some.inj h0
  rcases h1 with ⟨_, he, _⟩ | ⟨_, r, _, _, he, _⟩
  · exact ⟨_, he⟩
  · exact ⟨_, he⟩
theorem putE_other {env : Nat → AV} {dst : Option Tmp} {v : AV} {t : Tmp} (h : dst ≠ some t) : putE env dst v t = env t := by
  cases dst with
  | none => rfl
  | some d => exact upd_other _ _ _ _ fun e => h (by rw [e])
theorem putE_same {env : Nat → AV} {dst : Option Tmp} {v : AV} {t : Tmp} (h : dst = some t) : putE env dst v t = v := by
  subst h
  exact upd_same _ _ _
theorem SeqD.env_keep (h : SeqD P md call nt ops st D) {t : Tmp} {a : Nat} : ∀ (b : Nat), a ≤ b → b ≤ ops.size → (∀ j o, a ≤ j → j < b → ops[j]? = some o → o.dst ≠ some t) → (D b).st.env t = (D a).st.env t
  | 0, h1, h2, h3 => by obtain rfl : a = 0 := by omega
                        rfl
  | b + 1, h1, h2, h3 => by
    by_cases e : a = b + 1
    · subst e; rfl
    · rw [← h.env_keep b (by omega) (by omega) fun j o j1 j2 j3 => h3 j o j1 (by omega) j3]
      have hb : b < ops.size := by omega
      obtain ⟨v, hv⟩ := h.env_step (Array.getElem?_eq_getElem hb)
      rw [hv]
      exact putE_other (h3 b _ (by omega) (by omega) (Array.getElem?_eq_getElem hb))
theorem SeqD.hv_mem (h : SeqD P md call nt ops st D) {k : Nat} : ∀ (j : Nat), j ≤ ops.size → (k ∈ (D j).hv ↔ k < j ∧ hvy D k)
  | 0, _ => by rw [h.hv0]; simp
  | j + 1, hj => by
    have ih := h.hv_mem (k := k) j (by omega)
    rcases h.light (j := j) (by omega) with h1 | ⟨h1, h2⟩
    · have h1' := h1
      unfold hvy at h1'
      rw [h1', List.mem_cons, ih]
      constructor
      · rintro (rfl | ⟨a, b⟩)
        · exact ⟨by omega, h1⟩
        · exact ⟨by omega, b⟩
      · rintro ⟨a, b⟩
        by_cases e : k = j
        · exact .inl e
        · exact .inr ⟨by omega, b⟩
    · rw [h2.hv, ih]
      constructor
      · rintro ⟨a, b⟩; exact ⟨by omega, b⟩
      · rintro ⟨a, b⟩
        refine ⟨?_, b⟩
        have : k ≠ j := fun e => h1 (e ▸ b)
        omega
theorem SeqD.wr_step (h : SeqD P md call nt ops st D) {j : Nat} (hj : j < ops.size) (hw : (D (j + 1)).wr = false) : (D j).wr = false := by
  obtain ⟨q, hq, _⟩ := h.step j hj
  obtain ⟨o, g, _, _, _, h1⟩ := stepD_inv hq
  rcases h1 with ⟨_, _, hl, _⟩ | ⟨_, r, _, _, _, ⟨_, hl⟩ | ⟨_, _, _, _, ⟨_, _, _, e⟩ | ⟨e, _⟩⟩⟩
  · rw [← hl.wr]; exact hw
  · rw [← hl.wr]; exact hw
  · rw [hw] at e; cases e
  · rw [Bool.or_eq_false_iff] at e; exact e.1
theorem SeqD.wr_mono (h : SeqD P md call nt ops st D) {a : Nat} : ∀ (b : Nat), a ≤ b → b ≤ ops.size → (D b).wr = false → (D a).wr = false
  | 0, h1, h2, h3 => by obtain rfl : a = 0 := by omega
                        exact h3
  | b + 1, h1, h2, h3 => by
    by_cases e : a = b + 1
    · subst e; exact h3
    · exact h.wr_mono b (by omega) (by omega) (h.wr_step (by omega) h3)
theorem SeqD.wr_who (h : SeqD P md call nt ops st D) : ∀ (i : Nat), i ≤ ops.size → (D i).wr = true → ∃ k, k < i ∧ hvy D k ∧ (D (k + 1)).wr = true
  | 0, _, hw => by rw [h.wr0] at hw; cases hw
  | i + 1, hi, hw => by
    rcases h.light (j := i) (by omega) with h1 | ⟨h1, h2⟩
    · exact ⟨i, by omega, h1, hw⟩
    · rw [h2.wr] at hw
      obtain ⟨k, k1, k2⟩ := h.wr_who i (by omega) hw
      exact ⟨k, by omega, k2⟩
theorem SeqD.adds (h : SeqD P md call nt ops st D) {j : Nat} (hj : j < ops.size) (hw : (D (j + 1)).wr = false) : Adds (D j).st.heap (D j).st.next (D (j + 1)).st.heap (D (j + 1)).st.next := by
  obtain ⟨q, hq, _⟩ := h.step j hj
  obtain ⟨o, g, _, _, _, h1⟩ := stepD_inv hq
  have key : Light (D j) (D (j + 1)) → Adds (D j).st.heap (D j).st.next (D (j + 1)).st.heap (D (j + 1)).st.next := fun hl => ⟨by rw [hl.next]; exact Nat.le_refl _, fun _ _ => by rw [hl.heap]⟩
  rcases h1 with ⟨_, _, hl, _⟩ | ⟨_, r, hr, _, _, ⟨_, hl⟩ | ⟨hh, _, e1, e2, ⟨_, _, _, e⟩ | ⟨e, e3, e4, _⟩⟩⟩
  · exact key hl
  · exact key hl
  · rw [hw] at e; cases e
  · rw [Bool.or_eq_false_iff] at e
    rw [e1, e2]
    obtain ⟨r', _, _, _, _, _, k, _⟩ := evD_local e.2 hh hr (fun _ _ => rfl) e4
    exact k
theorem SeqD.next_mono (h : SeqD P md call nt ops st D) {a : Nat} : ∀ (b : Nat), a ≤ b → b ≤ ops.size → (D b).wr = false → (D a).st.next ≤ (D b).st.next
  | 0, h1, h2, h3 => by obtain rfl : a = 0 := by omega
                        exact Nat.le_refl _
  | b + 1, h1, h2, h3 => by
    by_cases e : a = b + 1
    · subst e; exact Nat.le_refl _
    · exact Nat.le_trans (h.next_mono b (by omega) (by omega) (h.wr_step (by omega) h3)) (h.adds (by omega) h3).le
theorem SeqD.heap_keep (h : SeqD P md call nt ops st D) {a id : Nat} (hid : id < (D a).st.next) : ∀ (b : Nat), a ≤ b → b ≤ ops.size → (D b).wr = false → (D b).st.heap id = (D a).st.heap id
  | 0, h1, h2, h3 => by obtain rfl : a = 0 := by omega
                        rfl
  | b + 1, h1, h2, h3 => by
    by_cases e : a = b + 1
    · subst e; rfl
    · have hb := h.wr_step (j := b) (by omega) h3
      rw [← h.heap_keep hid b (by omega) (by omega) hb]
      refine (h.adds (by omega) h3).old id fun hn => ?_
      have := h.next_mono (a := a) b (by omega) (by omega) hb
      omega
theorem SeqD.heap_new (h : SeqD P md call nt ops st D) {id : Nat} (hid : st.next ≤ id) : ∀ (b : Nat), b ≤ ops.size → (D b).wr = false → (∀ j, j < b → hvy D j → ¬ ((D j).st.next ≤ id ∧ id < (D (j + 1)).st.next)) → (D b).st.heap id = none
  | 0, h2, h3, h4 => by
    rw [h.st0]
    cases hx : st.heap id with
    | none => rfl
    | some b => have := h.lt id (by rw [hx]; rfl); omega
  | b + 1, h2, h3, h4 => by
    have hb := h.wr_step (j := b) (by omega) h3
    rcases h.light (j := b) (by omega) with h1 | ⟨h1, h5⟩
    · rw [(h.adds (by omega) h3).old id (h4 b (by omega) h1)]
      exact h.heap_new hid b (by omega) hb fun j hj => h4 j (by omega)
    · rw [h5.heap]
      exact h.heap_new hid b (by omega) hb fun j hj => h4 j (by omega)
theorem SeqD.al_mem (h : SeqD P md call nt ops st D) {a k : Nat} : ∀ (i : Nat), i ≤ ops.size → (a, k) ∈ (D i).al → k < i ∧ hvy D k ∧ (D k).st.next ≤ a ∧ a < (D (k + 1)).st.next
  | 0, _, hm => by rw [h.al0] at hm; cases hm
  | i + 1, hi, hm => by
    obtain ⟨q, hq, _⟩ := h.step i (by omega)
    obtain ⟨o, g, _, _, _, h1⟩ := stepD_inv hq
    have ih := h.al_mem (a := a) (k := k) i (by omega)
    have key : (D (i + 1)).al = (D i).al → k < i + 1 ∧ hvy D k ∧ (D k).st.next ≤ a ∧ a < (D (k + 1)).st.next := fun e => by
      rw [e] at hm
      obtain ⟨k1, k2⟩ := ih hm
      exact ⟨by omega, k2⟩
    rcases h1 with ⟨_, _, hl, _⟩ | ⟨_, r, hr, _, _, ⟨_, hl⟩ | ⟨hh, hv, e1, e2, ⟨_, _, e, _⟩ | ⟨_, _, _, e, _⟩⟩⟩
    · exact key hl.al
    · exact key hl.al
    · exact key e
    · rw [e, List.mem_append] at hm
      rcases hm with hm | hm
      · unfold newIds at hm
        obtain ⟨x, hx, he⟩ := List.mem_map.1 hm
        rw [List.mem_range] at hx
        simp only [Prod.mk.injEq] at he
        obtain ⟨rfl, rfl⟩ := he
        refine ⟨by omega, hv, by omega, ?_⟩
        rw [e2]; omega
      · obtain ⟨k1, k2⟩ := ih hm
        exact ⟨by omega, k2⟩
/-- what the text alone meets -/
theorem statOk_after {bs : List Nat} (h : statOk ops bs = true) {i : Nat} {o : Oper} (ho : ops[i]? = some o) : ∀ e ∈ o.after.toList, Region.binds .any e = true → e.on < i := by
  unfold statOk at h
  have hi : i < ops.size := (Array.getElem?_eq_some_iff.1 ho).1
  have := List.all_eq_true.1 h i (List.mem_range.2 hi)
  rw [ho] at this
  simp only [Bool.and_eq_true] at this
  intro e he hb
  have h1 := List.all_eq_true.1 this.1 e he
  rw [hb] at h1
  simp only [Bool.not_true, Bool.false_or] at h1
  exact Nat.blt_eq ▸ h1
theorem statOk_dst {bs : List Nat} (h : statOk ops bs = true) {i k d : Nat} {o p : Oper} (ho : ops[i]? = some o) (hp : ops[k]? = some p) (hd : p.dst = some d) :
    (k = i ∨ o.dst ≠ some d) ∧ (d ∈ tmpsOf o ops → k = i ∨ (k < i ∧ (bs.getD i 0).testBit k = true) ∨ (¬ k < i ∧ (bs.getD k 0).testBit i = true)) := by
  unfold statOk at h
  have hi : i < ops.size := (Array.getElem?_eq_some_iff.1 ho).1
  have hk : k < ops.size := (Array.getElem?_eq_some_iff.1 hp).1
  have := List.all_eq_true.1 h i (List.mem_range.2 hi)
  rw [ho] at this
  simp only [Bool.and_eq_true] at this
  have h2 := List.all_eq_true.1 this.2 k (List.mem_range.2 hk)
  rw [hp] at h2
  simp only [hd, Bool.and_eq_true] at h2
  refine ⟨?_, fun hm => ?_⟩
  · have h3 := h2.1
    rw [Bool.or_eq_true, Nat.beq_eq] at h3
    exact h3.imp id fun h4 => by simpa using h4
  · have h3 := List.all_eq_true.1 h2.2 d hm
    simp only [Bool.or_eq_true, Nat.beq_eq, Bool.not_eq_true'] at h3
    rcases h3 with (h3 | h3) | h3
    · exact absurd h3 (by simp)
    · exact .inl h3
    · by_cases hlt : k < i
      · have : Nat.blt k i = true := by rw [Nat.blt_eq]; exact hlt
        rw [this] at h3
        exact .inr (.inl ⟨hlt, h3⟩)
      · have : Nat.blt k i = false := by
          cases hb : Nat.blt k i with
          | false => rfl
          | true => rw [Nat.blt_eq] at hb; exact absurd hb hlt
        rw [this] at h3
        exact .inr (.inr ⟨hlt, h3⟩)
/-- who came up -/
def Up (listed : Array Bool) (k : Nat) : Prop := listed.getD k false = true
structure Closed (ops : Array Oper) (listed : Array Bool) : Prop where
  sz : listed.size = ops.size
  cl : ∀ (k : Nat) o, ops[k]? = some o → Up listed k → ∀ e ∈ o.after.toList, Region.binds .any e = true → Up listed e.on
theorem up_lt {listed : Array Bool} {k : Nat} (h : Up listed k) : k < listed.size := by
  rcases Nat.lt_or_ge k listed.size with h' | h'
  · exact h'
  · simp [Up, Array.getElem?_eq_none h'] at h
theorem up_set {listed : Array Bool} {i k : Nat} (hi : i < listed.size) : Up (listed.setIfInBounds i true) k ↔ k = i ∨ Up listed k := by
  unfold Up
  by_cases e : i = k
  · subst e
    simp [hi]
  · rw [getD_set_ne false e]
    constructor
    · exact .inr
    · rintro (h | h)
      · exact absurd h.symm e
      · exact h
theorem Closed.bef {listed : Array Bool} (h : Closed ops listed) (hs : statOk ops (befs ops) = true) : ∀ (k : Nat), Up listed k → ∀ i, ((befs ops).getD k 0).testBit i = true → Up listed i := by
  intro k
  induction k using Nat.strongRecOn with
  | _ k ih =>
    intro hk i hb
    have hlt : k < ops.size := by rw [← h.sz]; exact up_lt hk
    have ho := Array.getElem?_eq_getElem hlt
    obtain ⟨e, h1, h2, h3⟩ := befs_bit ho (statOk_after hs ho) hb
    have hu := h.cl k _ ho hk e h1 h2
    rcases h3 with rfl | h3
    · exact hu
    · exact ih e.on (statOk_after hs ho e h1 h2) hu i h3
theorem Closed.ready {listed : Array Bool} (h : Closed ops listed) {i : Nat} (hr : i ∈ Region.ready .any ops listed) : ¬ Up listed i ∧ i < ops.size ∧ Closed ops (listed.setIfInBounds i true) := by
  obtain ⟨h0, o, ho, hall⟩ := mem_ready.1 hr
  have hi : i < ops.size := (Array.getElem?_eq_some_iff.1 ho).1
  have hi' : i < listed.size := by rw [h.sz]; exact hi
  refine ⟨fun hu => ?_, hi, ⟨by rw [Array.size_setIfInBounds]; exact h.sz, fun k o' ho' hu e he hb => ?_⟩⟩
  · unfold Up at hu
    rw [Array.getD_eq_getD_getElem?, Array.getElem?_eq_getElem hi'] at hu h0
    simp only [Option.getD_some] at hu h0
    rw [hu] at h0; cases h0
  · rw [up_set hi'] at hu ⊢
    rcases hu with rfl | hu
    · rw [ho] at ho'
      cases ho'
      exact .inr (hall e (by simpa using he) hb)
    · exact .inr (h.cl k o' ho' hu e he hb)
theorem Closed.done {listed : Array Bool} (h : Closed ops listed) (hs : statOk ops (befs ops) = true) (hr : Region.ready .any ops listed = []) : ∀ k, k < ops.size → Up listed k := by
  intro k
  induction k using Nat.strongRecOn with
  | _ k ih =>
    intro hk
    by_cases hu : Up listed k
    · exact hu
    · exfalso
      have ho := Array.getElem?_eq_getElem hk
      have hk' : k < listed.size := by rw [h.sz]; exact hk
      have : k ∈ Region.ready .any ops listed := by
        refine mem_ready.2 ⟨?_, _, ho, fun e he hb => ?_⟩
        · unfold Up at hu
          rw [Array.getD_eq_getD_getElem?, Array.getElem?_eq_getElem hk'] at hu ⊢
          simpa using hu
        · have hlt := statOk_after hs ho e (by simpa using he) hb
          exact ih e.on hlt (by omega)
      rw [hr] at this
      cases this
theorem count_lt {l : List Nat} {p p' : Nat → Bool} {i : Nat} (hi : i ∈ l) (h1 : p i = true) (h2 : p' i = false) (hm : ∀ x, p' x = true → p x = true) : l.countP p' < l.countP p := by
  induction l with
  | nil => cases hi
  | cons a l ih =>
    rw [List.countP_cons, List.countP_cons]
    have hle : l.countP p' ≤ l.countP p := List.countP_mono_left fun x _ h => hm x h
    rcases List.mem_cons.1 hi with rfl | hi
    · rw [h1, h2]; simp; omega
    · have := ih hi
      have h3 : (if p' a = true then 1 else 0) ≤ (if p a = true then 1 else 0) := by
        by_cases e : p' a = true
        · rw [if_pos e, if_pos (hm a e)]; omega
        · rw [if_neg e]; omega
      omega
end
end Go.Proofs.Ytdbnfdcjibgikaa.Rx
