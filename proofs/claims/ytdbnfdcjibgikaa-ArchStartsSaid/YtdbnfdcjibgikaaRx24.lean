/- The words in which a function's text is held against what it should come to. -/
import Derived.Test.YtdbnfdcjibgikaaRx23
set_option linter.unusedVariables false
set_option linter.unusedSimpArgs false
namespace Go.Proofs.Ytdbnfdcjibgikaa.Rx
open Go.RowKit
/-- a thing to be shown, shut, so that nobody looks inside without need -/
structure Vc (p : Prop) : Prop where
  out : p
def allP : List Prop → Prop
  | [] => True
  | p :: l => p ∧ allP l
theorem allP_mem : ∀ {l : List Prop}, allP l → ∀ p ∈ l, p
  | [], _, p, hp => by cases hp
  | q :: l, h, p, hp => by
    rcases List.mem_cons.1 hp with rfl | hp
    · exact h.1
    · exact allP_mem h.2 p hp
def eqX : X → X → Bool
  | .nrm, .nrm => true
  | .ext i, .ext j => Nat.beq i j
  | .ret, .ret => true
  | _, _ => false
theorem eqX_eq {x y : X} (h : eqX x y = true) : x = y := by
  cases x <;> cases y <;> first | rfl | cases h | (unfold eqX at h; rw [Nat.eq_of_beq_eq_true h])
def cSub : Code → List Nat → Code
  | c, [] => c
  | .seq a b, i :: p => bif Nat.beq i 0 then cSub a p else cSub b p
  | .cond _ a b, i :: p => bif Nat.beq i 0 then cSub a p else cSub b p
  | .block _ c, _ :: p => cSub c p
  | .loop c, _ :: p => cSub c p
  | c, _ => c
/-- the loops of a text, one behind the other, each ahead of those within it -/
def loops : Code → List Code
  | .seq a b => loops a ++ loops b
  | .cond _ a b => loops a ++ loops b
  | .block _ c => loops c
  | .loop c => c :: loops c
  | _ => []
section
variable (P : Program)
def codeOf (f : FuncId) : Code := ((P.funcs[f]?).bind (·.body)).getD .skip
def subC (f : FuncId) (p : List Nat) : Code := cSub (codeOf P f) p
def lpC (f : FuncId) (k : Nat) : Code := (loops (codeOf P f)).getD k .skip
def ntOf (f : FuncId) : Nat := ((P.funcs[f]?).map (·.ntmps)).getD 0
/-- what one must show for a function to be its contract -/
def vcFn (md : Bool) (f : FuncId) (args : List AV) (orc : List Orc) (ρ : List (Nat × Nat)) (res : AV) (H : List Blk) : Prop :=
  match evFn P (drawA P md) md 100 true f args (fun _ => none) 0 orc with
  | some r => match leS ρ ⟨fun _ => r.v, r.heap, r.next⟩ ⟨[(0, res)], idxH H, H.length⟩ with
    | some ps => allP (r.cs ++ ps)
    | none => False
  | none => False
/-- what one must show for a part of a text to lead from a state to another -/
def vcC (md : Bool) (nt : Nat) (c : Code) (I : Sm) (orc : List Orc) (x : X) (r : List (Nat × Nat)) (J : Sm) : Prop :=
  match evCode P (drawA P md) true md (callA P (evFn P (drawA P md) md 100 false)) nt c I.st orc with
  | some q => bif eqX q.1 x then match leS r q.2.1 J with
    | some ps => allP (q.2.2.2 ++ ps)
    | none => False
    else False
  | none => False
end
section
variable {P : Program}
theorem PureC.vc {md : Bool} {f : FuncId} {args : List AV} {orc : List Orc} {ρ : List (Nat × Nat)} {res : AV} {H : List Blk} (h : Vc (vcFn P md f args orc ρ res H)) : PureC P f args res H := by
  replace h := h.out
  unfold vcFn at h
  split at h
  · rename_i r hr
    split at h
    · rename_i ps hps
      have hall := allP_mem h
      exact PureC.of (drawA_ok md) hr (fun p hp => hall p (List.mem_append.2 (.inl hp))) hps fun p hp => hall p (List.mem_append.2 (.inr hp))
    · cases h
  · cases h
theorem callA_evFn {md : Bool} (n : Nat) : CallOk P (callA P (evFn P (drawA P md) md n false)) := callA_ok fun f args h next orc r h1 h2 cx h3 h4 h5 vs h6 h7 => by
  obtain ⟨k1, k2⟩ := evFn_run (drawA_ok md) n false h1 h2 cx h3 h4 h5 vs h6 h7
  refine ⟨k1, k2.mono ?_⟩
  rintro e w' ⟨z, cx', m1, m2, m3, m4, m5, m6, m7⟩
  exact ⟨z, cx', m1, m2, m3, m4, m5.2 rfl, m6, m7⟩
theorem Ok.vc {md : Bool} {nt : Nat} {c : Code} {I J : Sm} {orc : List Orc} {x : X} {r : List (Nat × Nat)} (h : Vc (vcC P md nt c I orc x r J)) : Ok P nt c I.st x J.st := by
  replace h := h.out
  unfold vcC at h
  split at h
  · rename_i q hq
    obtain ⟨hx, h1⟩ : eqX q.1 x = true ∧ (match leS r q.2.1 J with | some ps => allP (q.2.2.2 ++ ps) | none => False) := by
      cases hb : eqX q.1 x with
      | true => rw [hb] at h; exact ⟨rfl, h⟩
      | false => rw [hb] at h; exact h.elim
    split at h1
    · rename_i ps hps
      have hall := allP_mem h1
      intro cx a hs Q hQ
      refine evCode_sound (drawA_ok md) (callA_evFn 100) c hq (fun p hp => hall p (List.mem_append.2 (.inl hp))) hs Q fun cx1 a1 hs1 ha1 => ?_
      obtain ⟨cx2, hs2, he2, hw2⟩ := hs1.le hps fun p hp => hall p (List.mem_append.2 (.inr hp))
      rw [eqX_eq hx, ← hw2]
      exact hQ cx2 a1 hs2 (ha1.1.trans he2)
    · cases h1
  · cases h
/-- a loop of m rounds, and the one that leaves -/
theorem Ok.loop {nt : Nat} {c : Code} {F : Nat → Sm} {m : Nat} {x : X} {J : Sm} (hr : ∀ k, k < m → Ok P nt c (F k).st .nrm (F (k + 1)).st) (he : Ok P nt c (F m).st x J.st) (hx : x ≠ .nrm) : Ok P nt (.loop c) (F 0).st x J.st := by
  intro cx a hs Q hQ
  have key : ∀ n k, k + n = m → ∀ cx1 a1, SRep cx1 (F k).st a1 nt → Ext cx cx1 → Code.rounds P c Q (n + 1) a1 cx1.w := by
    intro n
    induction n with
    | zero =>
      intro k hk cx1 a1 hs1 he1
      obtain rfl : k = m := by omega
      rw [rounds_succ]
      refine he cx1 a1 hs1 _ fun cx2 a2 hs2 he2 => ?_
      have := hQ cx2 a2 hs2 (he1.trans he2)
      cases x with
      | nrm => exact absurd rfl hx
      | ext id => exact this
      | ret => exact this
    | succ n ih =>
      intro k hk cx1 a1 hs1 he1
      rw [rounds_succ]
      exact hr k (by omega) cx1 a1 hs1 _ fun cx2 a2 hs2 he2 => ih (k + 1) (by omega) cx2 a2 hs2 (he1.trans he2)
  exact wp_loop_rounds (m + 1) (key m 0 (by omega) cx a hs (Ext.refl cx))
/-- a row of things, each so many cells -/
def rowL {α : Type} [Inhabited α] (g : α → Nat → AV) (l : List α) : Nat → Nat → AV := fun i j => g (l.getD i default) j
theorem rowL_left {α : Type} [Inhabited α] {g : α → Nat → AV} {l l' : List α} {i j : Nat} (h : i < l.length) : rowL g (l ++ l') i j = rowL g l i j := by
  unfold rowL
  rw [List.getD_eq_getElem?_getD, List.getD_eq_getElem?_getD, List.getElem?_append_left h]
theorem rowL_right {α : Type} [Inhabited α] {g : α → Nat → AV} {l l' : List α} {i j : Nat} (h : ¬ i < l.length) : rowL g (l ++ l') i j = rowL g l' (i - l.length) j := by
  unfold rowL
  rw [List.getD_eq_getElem?_getD, List.getD_eq_getElem?_getD, List.getElem?_append_right (Nat.not_lt.1 h)]
theorem rowL_last {α : Type} [Inhabited α] {g : α → Nat → AV} {l : List α} {x : α} {j : Nat} : rowL g (l ++ [x]) l.length j = g x j := by
  rw [rowL_right (Nat.lt_irrefl _), Nat.sub_self]
  rfl
theorem row_if {n i : Nat} {a b c : AV} (h1 : i < n → a = c) (h2 : ¬ i < n → b = c) : (bif Nat.blt i n then a else b) = c := by
  by_cases h : i < n
  · have : Nat.blt i n = true := by rw [Nat.blt_eq]; exact h
    rw [this]
    exact h1 h
  · have : Nat.blt i n = false := by
      cases hb : Nat.blt i n with
      | false => rfl
      | true => rw [Nat.blt_eq] at hb; exact absurd hb h
    rw [this]
    exact h2 h
theorem vc_of {p q : Prop} (h : p = q) (hq : q) : Vc p := ⟨h.mpr hq⟩
theorem in64 {n : Int} (h1 : -9223372036854775808 ≤ n) (h2 : n ≤ 9223372036854775807) : inK .i64 n := ⟨h1, h2⟩
end
end Go.Proofs.Ytdbnfdcjibgikaa.Rx
