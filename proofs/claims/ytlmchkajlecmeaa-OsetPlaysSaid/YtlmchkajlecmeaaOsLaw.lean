/- Plain facts that the statements on sets lean on: the keys behind a row of calls; ranks of unlike keys; a map of what was seen. -/
import Derived.Test.YtlmchkajlecmeaaOsTwo
import Derived.Test.YtlmchkajlecmeaaShell2
set_option linter.unusedVariables false
set_option linter.unusedSimpArgs false
namespace Go.Proofs.Ytlmchkajlecmeaa
open Go.RowKit
/-- the keys behind a row of Adds -/
def keysOf (most : Nat) (l : List (List Int)) : List (List Int) := l.foldl (fun L x => Os.put most L x) []
theorem keysOf_take {most : Nat} {l : List (List Int)} {i : Nat} (h : i < l.length) : keysOf most (l.take (i + 1)) = Os.put most (keysOf most (l.take i)) (l.getD i []) := by
  unfold keysOf
  rw [List.take_add_one, List.foldl_append]
  simp [List.getD, h]
theorem put_len (most : Nat) (L : List (List Int)) (k : List Int) : (Os.put most L k).length ≤ L.length + 1 := by
  unfold Os.put
  split
  · omega
  · split
    · omega
    · simp
theorem foldl_len (most : Nat) : ∀ (l L : List (List Int)), (l.foldl (fun L x => Os.put most L x) L).length ≤ L.length + l.length
  | [], L => by simp
  | x :: l, L => by
    have h1 := foldl_len most l (Os.put most L x)
    have h2 := put_len most L x
    simp only [List.foldl_cons, List.length_cons]
    omega
theorem keysOf_len (most : Nat) (l : List (List Int)) : (keysOf most l).length ≤ l.length := by
  have := foldl_len most l []
  simpa [keysOf] using this
section
variable {W w : World} {Z : Nat → Prop} {g most : Nat} {L : List (List Int)} {Q : SetP}
theorem Two.keys (h : Two W Z w (cs g most L) Q) : (∀ x ∈ L, Cd.isB x ∧ x.length ≤ 140737488351232) ∧ L.Nodup ∧ most ≤ 1000000 ∧ L.length ≤ 1000000 := by
  obtain ⟨Sa, Sb, ⟨b, rk, R, vK, vR, KS, RS, h1⟩, _⟩ := h.sets
  exact ⟨h1.bytes, h1.nodup, h1.most, h1.few⟩
theorem AtPost.some {i : Nat} {e : Ending} {w' : World} (h : AtPost L (i : Int) w e w') (hi : i < L.length) : ∃ A c, e = .returned (.tuple #[.slice A (Os.keyAt L i).length c, .bool true]) ∧ (Os.keyAt L i).length ≤ c ∧ c ≤ maxLen ∧ w'.ownsRow w.heap.size 5 1 (.slice A (Os.keyAt L i).length c) (Os.keyAt L i).length ((Os.keyAt L i).map (Value.int .u8)) ∧ Rd w' w'.heap.size A ((Os.keyAt L i).map (Value.int .u8)) ∧ Below w.heap.size w w' := by
  unfold AtPost at h
  rw [if_pos (by omega)] at h
  simpa using h
theorem AtPost.none {i : Int} {e : Ending} {w' : World} (h : AtPost L i w e w') (hi : ¬ (0 ≤ i ∧ i < (L.length : Int))) : e = .returned (.tuple #[.slice none 0 0, .bool false]) ∧ w' = w := by
  unfold AtPost at h
  rwa [if_neg hi] at h
end
theorem put_mem {most : Nat} {L : List (List Int)} {k x : List Int} (h : L.length < most ∨ k ∈ L) : x ∈ Os.put most L k ↔ x ∈ L ∨ x = k := by
  cases hi : Os.idx L k with
  | some i =>
    rw [Os.put_old hi]
    obtain ⟨h1, h2⟩ := Os.idx_some hi
    have hk : k ∈ L := by rw [← h2]; simp [Os.keyAt, List.getD, h1]
    exact ⟨.inl, fun hx => hx.elim id (fun e => by rw [e]; exact hk)⟩
  | none =>
    have hm : L.length < most := h.resolve_right (Os.idx_none.1 hi)
    rw [Os.put_new hi hm]
    simp
theorem foldl_mem {most : Nat} {x : List Int} : ∀ (l L : List (List Int)), L.length + l.length ≤ most → (x ∈ l.foldl (fun L x => Os.put most L x) L ↔ x ∈ L ∨ x ∈ l)
  | [], L, _ => by simp
  | y :: l, L, h => by
    simp only [List.length_cons] at h
    have h2 := put_len most L y
    rw [List.foldl_cons, foldl_mem l (Os.put most L y) (by omega), put_mem (.inl (by omega))]
    simp [or_assoc]
theorem keysOf_mem {most : Nat} {l : List (List Int)} (h : l.length ≤ most) {x : List Int} : x ∈ keysOf most l ↔ x ∈ l := by
  unfold keysOf
  rw [foldl_mem l [] (by simpa using h)]
  simp
theorem put_nodup {most : Nat} {L : List (List Int)} {k : List Int} (h : L.Nodup) : (Os.put most L k).Nodup := by
  cases hi : Os.idx L k with
  | some i => rw [Os.put_old hi]; exact h
  | none =>
    rcases Nat.lt_or_ge L.length most with hm | hm
    · rw [Os.put_new hi hm]; exact Os.nodup_snoc h hi
    · rw [Os.put_full hi hm]; exact h
theorem foldl_nodup {most : Nat} : ∀ (l L : List (List Int)), L.Nodup → (l.foldl (fun L x => Os.put most L x) L).Nodup
  | [], L, h => h
  | x :: l, L, h => foldl_nodup l _ (put_nodup h)
theorem keysOf_nodup (most : Nat) (l : List (List Int)) : (keysOf most l).Nodup := foldl_nodup l [] (by simp)
theorem perm_of_mem {α : Type} [BEq α] [LawfulBEq α] : ∀ {l m : List α}, l.Nodup → m.Nodup → (∀ x, x ∈ l ↔ x ∈ m) → l.Perm m
  | [], m, _, _, h => by
    cases m with
    | nil => exact List.Perm.refl _
    | cons y m => have := (h y).2 (by simp); cases this
  | x :: l, m, h1, h2, h => by
    obtain ⟨hx, hl⟩ := List.nodup_cons.1 h1
    have hm : x ∈ m := (h x).1 (by simp)
    have hp := List.perm_cons_erase hm
    have h3 : (x :: m.erase x).Nodup := hp.nodup_iff.1 h2
    obtain ⟨hx3, h4⟩ := List.nodup_cons.1 h3
    refine (List.Perm.cons x (perm_of_mem hl h4 (fun y => ?_))).trans hp.symm
    have e : y ∈ m ↔ y = x ∨ y ∈ m.erase x := by rw [hp.mem_iff]; simp
    constructor
    · intro hy
      have h5 := e.1 ((h y).1 (by simp [hy]))
      rcases h5 with rfl | h5
      · exact absurd hy hx
      · exact h5
    · intro hy
      have h5 := (h y).2 (e.2 (.inr hy))
      rcases List.mem_cons.1 h5 with rfl | h5
      · exact absurd hy hx3
      · exact h5
/-- the same keys in another order -/
theorem keysOf_rev {most : Nat} {l : List (List Int)} (h : l.length ≤ most) : (keysOf most l).Perm (keysOf most l.reverse) :=
  perm_of_mem (keysOf_nodup _ _) (keysOf_nodup _ _) (fun x => by rw [keysOf_mem h, keysOf_mem (by simpa using h)]; simp)
theorem mem_keyAt {L : List (List Int)} {i : Nat} (h : i < L.length) : Os.keyAt L i ∈ L := by simp [Os.keyAt, List.getD, h]
theorem countP_lt {α : Type} {p q : α → Bool} : ∀ {L : List α}, (∀ x ∈ L, p x = true → q x = true) → (∃ a ∈ L, p a = false ∧ q a = true) → L.countP p < L.countP q
  | [], _, h => by obtain ⟨a, ha, _⟩ := h; cases ha
  | x :: L, h, ⟨a, ha, h1, h2⟩ => by
    rw [List.countP_cons, List.countP_cons]
    rcases List.mem_cons.1 ha with rfl | ha
    · have := List.countP_mono_left (l := L) (p := p) (q := q) (fun y hy => h y (by simp [hy]))
      simp [h1, h2]
      omega
    · have ih := countP_lt (L := L) (fun y hy => h y (by simp [hy])) ⟨a, ha, h1, h2⟩
      have hx := h x (by simp)
      cases hp : p x <;> cases hq : q x <;> simp <;> first | omega | (exfalso; have := hx hp; rw [hq] at this; cases this)
theorem rk_lt {L : List (List Int)} {a b : List Int} (ha : a ∈ L) (h : Cd.lessB a b = true) : Os.rk L a < Os.rk L b :=
  countP_lt (fun x _ hx => Cd.less_trans hx h) ⟨a, ha, Cd.less_self a, h⟩
theorem rk_ne {L : List (List Int)} (hB : ∀ x ∈ L, Cd.isB x) (hn : L.Nodup) {i j : Nat} (hi : i < L.length) (hj : j < L.length) (hij : i ≠ j) : Os.rk L (Os.keyAt L i) ≠ Os.rk L (Os.keyAt L j) := by
  have hne : Os.keyAt L i ≠ Os.keyAt L j := fun e => by
    have h1 := Os.idx_of_nodup hn hi rfl
    have h2 := Os.idx_of_nodup hn hj rfl
    rw [e, h2] at h1
    injection h1 with h1
    exact hij h1.symm
  rcases Cd.less_tri (hB _ (mem_keyAt hi)) (hB _ (mem_keyAt hj)) hne with h | h
  · have := rk_lt (mem_keyAt hi) h; omega
  · have := rk_lt (mem_keyAt hj) h; omega
/-- the ranks of the first i keys -/
def seenB (L : List (List Int)) (i n : Nat) : Bool := (List.range i).any fun j => Os.rk L (Os.keyAt L j) == n
theorem seenB_succ (L : List (List Int)) (i n : Nat) : seenB L (i + 1) n = (seenB L i n || Os.rk L (Os.keyAt L i) == n) := by simp [seenB, List.range_succ]
theorem seenB_new {L : List (List Int)} (hB : ∀ x ∈ L, Cd.isB x) (hn : L.Nodup) {i : Nat} (hi : i < L.length) : seenB L i (Os.rk L (Os.keyAt L i)) = false := by
  unfold seenB
  rw [List.any_eq_false]
  intro j hj
  have hj := List.mem_range.1 hj
  simpa using rk_ne hB hn (show j < L.length by omega) hi (by omega)
/-- a map of what was seen -/
def SeenOk (D : DataW Unit) (L : List (List Int)) (i : Nat) : Prop := ∀ n : Nat, D.atKey (.int .i64 (n : Int)) (.lit (.int .i64 0)) = .lit (.int .i64 (if seenB L i n = true then 1 else 0))
theorem SeenOk.nil (L : List (List Int)) : SeenOk (.map []) L 0 := fun n => rfl
theorem SeenOk.put {D : DataW Unit} {L : List (List Int)} {i : Nat} (h : SeenOk D L i) (hD : Maps.IsMap D) : SeenOk (D.put (.int .i64 (Os.rk L (Os.keyAt L i) : Nat)) (.lit (.int .i64 1))) L (i + 1) := fun n => by
  rw [seenB_succ]
  by_cases e : Os.rk L (Os.keyAt L i) = n
  · subst e
    rw [Maps.atKey_put_same hD (by simp [WideAt.IsKeyLit])]
    simp
  · rw [Maps.atKey_put_other (by simp; omega), h n]
    simp [e]
/-- what the map of what was seen answers, and what it is behind a store -/
theorem seen_look {w : World} {b m : Nat} {D : DataW Unit} {L : List (List Int)} {i n : Nat} (hm : w.ownsMap Try.prog 3 (plainElem Try.prog 3) b m D) (hD : SeenOk D L i) (hn : n ≤ 1000000) :
    (Instr.lookup 29 (.map (some b)) (.int .i64 (n : Int)) false).run Try.prog w = .ok (.int .i64 (if seenB L i n = true then 1 else 0)) w := by
  obtain ⟨c, h1, h2, h3⟩ := hm.lookup_int (t := 29) (e := 3) (q := .i64) (Maps.int_keyed Try.underlying3) Try.underlying29 Try.underlying3 (by kernel_rfl) (Maps.keyOf_int_mk Try.underlying3 (a := (n : Int)) (WalkArith.wf_i64 (by omega)))
  rw [hD n] at h2
  simp only [DataW.lit.injEq, Lit.int.injEq, true_and] at h2
  rw [h1, h2]
theorem seen_put {w : World} {b m : Nat} {D : DataW Unit} {L : List (List Int)} {i : Nat} (hm : w.ownsMap Try.prog 3 (plainElem Try.prog 3) b m D) (hD : SeenOk D L i) (hn : Os.rk L (Os.keyAt L i) ≤ 1000000) (hm1 : m ≤ 1000000) :
    ∃ w' D', (Instr.mapUpdate 29 (.map (some b)) (.int .i64 (Os.rk L (Os.keyAt L i) : Nat)) (.int .i64 1)).run Try.prog w = .ok () w' ∧ w'.ownsMap Try.prog 3 (plainElem Try.prog 3) b (m + 1) D' ∧ SeenOk D' L (i + 1) ∧ Fr (fun k => k = b) w w' := by
  obtain ⟨w', h1, h2, h3⟩ := hm.update (t := 29) (e := 3) (Maps.int_keyed Try.underlying3) Try.underlying29 (by simp only [maxLen]; omega) (Maps.keyOf_int_mk Try.underlying3 (a := (Os.rk L (Os.keyAt L i) : Nat)) (WalkArith.wf_i64 (by omega))) (plainElem_int Try.underlying3 (a := 1) (by decide))
  exact ⟨w', _, h1, h2, hD.put hm.isMap, Fr.of_grownF h3⟩
end Go.Proofs.Ytlmchkajlecmeaa
