/- A region that draws its order: carried out in the order of the text, with what makes every order come to the same. -/
import Derived.Test.YtdbnfdcjibgikaaRx18
import Derived.Orders
set_option linter.unusedVariables false
set_option linter.unusedSimpArgs false
namespace Go.Proofs.Ytdbnfdcjibgikaa.Rx
open Go.RowKit
/-- who must have come up before: sets of numbers as bits -/
def orE (ms : List Nat) : List Edge → Nat
  | [] => 0
  | e :: l => (bif Region.binds .any e then 2 ^ e.on ||| ms.getD e.on 0 else 0) ||| orE ms l
def masks : List Oper → List Nat → List Nat
  | [], acc => acc
  | o :: os, acc => masks os (acc ++ [orE acc o.after.toList])
def befs (ops : Array Oper) : List Nat := masks ops.toList []
def tmpsOf (o : Oper) (ops : Array Oper) : List Tmp :=
  (o.op.operands.toList.filterMap fun | .tmp t => some t | _ => none) ++ (match o.guard with
    | some (j, _) => ((ops[j]?).bind (·.dst)).toList
    | none => [])
/-- what the text alone must meet -/
def statOk (ops : Array Oper) (bs : List Nat) : Bool :=
  (List.range ops.size).all fun i => match ops[i]? with
    | none => false
    | some o => (o.after.toList.all fun e => !(Region.binds .any e) || Nat.blt e.on i) &&
      ((List.range ops.size).all fun k => match ops[k]? with
        | none => false
        | some p => match p.dst with
          | none => true
          | some d => (Nat.beq k i || !(o.dst == some d)) &&
            ((tmpsOf o ops).all fun t => !(Nat.beq t d) || Nat.beq k i || (bif Nat.blt k i then (bs.getD i 0).testBit k else (bs.getD k 0).testBit i)))
/-- how far the run in the order of the text has come: the state; who of those that came touched memory; which numbers they made; has anybody written? -/
structure DS where
  st : St
  orc : List Orc
  hv : List Nat
  al : List (Nat × Nat)
  wr : Bool
def isCl (op : Op) (ρ : Operand → AV) (orc : List Orc) : Bool := match orc with
  | .cl .. :: _ => match op with
    | .call { callee := .value f, .. } => match ρ f with
      | .clo _ _ => true
      | _ => false
    | _ => false
  | _ => false
/-- what a function has caught -/
def capsOf : AV → List AV
  | .clo _ caps => caps
  | _ => []
def newIds (a b i : Nat) : List (Nat × Nat) := (List.range (b - a)).map fun k => (a + k, i)
section
variable (P : Program)
def evD (md : Bool) (call : CallF) (op : Op) (ρ : Operand → AV) (h : Nat → Option Blk) (next : Nat) (orc : List Orc) : Option Res :=
  evOp P md (bif isCl op ρ orc then callC (P := P) else call) op ρ h next orc
def rdD (op : Op) (ρ : Operand → AV) : List Nat := match op with
  | .call { callee := .value f, args, .. } => (args.toList.map ρ ++ capsOf (ρ f)).flatMap idsF
  | op => rdIds op ρ
def isWr (op : Op) (ρ : Operand → AV) (orc : List Orc) : Bool := match clsOf P op with
  | .write => true
  | .call => !(isCl op ρ orc)
  | _ => false
def isHv (op : Op) (ρ : Operand → AV) : Bool := match clsOf P op with
  | .pur => false
  | .read => match op with
    | .fieldAddr _ x _ => match ρ x with
      | .bptr .. => false
      | .rptr .. => false
      | _ => true
    | .load _ x => match ρ x with
      | .rptr .. => false
      | _ => true
    | .indexAddr _ x _ => match ρ x with
      | .bptr .. => false
      | .row .. => false
      | _ => true
    | _ => true
  | _ => true
def stepD (md : Bool) (call : CallF) (nt n0 : Nat) (ops : Array Oper) (bs : List Nat) (i : Nat) (s : DS) : Option (DS × List Prop) :=
  match ops[i]? with
  | none => none
  | some o => bif dstOk nt o.dst then (guardA ops o s.st.env s.orc).bind fun g => match g.1 with
    | false => some (⟨⟨putE s.st.env o.dst undA, s.st.heap, s.st.next⟩, g.2.1, s.hv, s.al, s.wr⟩, g.2.2)
    | true => (evD P md call o.op (evalA s.st.env) s.st.heap s.st.next g.2.1).bind fun r =>
      bif isHv P o.op (evalA s.st.env) then
        bif s.wr || isWr P o.op (evalA s.st.env) g.2.1 || !(frzd s.st.heap (rdD o.op (evalA s.st.env) |>.filter fun _ => !(decide (clsOf P o.op = .read)))) then
          bif s.hv.all fun k => (bs.getD i 0).testBit k then some (⟨⟨putE s.st.env o.dst r.v, r.heap, r.next⟩, r.orc, i :: s.hv, s.al, true⟩, g.2.2 ++ r.cs) else none
        else
          bif ((rdD o.op (evalA s.st.env)).all fun id => Nat.blt id n0 || s.al.any fun q => Nat.beq q.1 id && (bs.getD i 0).testBit q.2) then
            some (⟨⟨putE s.st.env o.dst r.v, r.heap, r.next⟩, r.orc, i :: s.hv, newIds s.st.next r.next i ++ s.al, false⟩, g.2.2 ++ r.cs) else none
      else some (⟨⟨putE s.st.env o.dst r.v, s.st.heap, s.st.next⟩, r.orc, s.hv, s.al, s.wr⟩, g.2.2 ++ r.cs) else none
def runD (step : Nat → DS → Option (DS × List Prop)) : Nat → Nat → DS → Option (DS × List Prop)
  | 0, _, s => some (s, [])
  | k + 1, i, s => (step i s).bind fun q => (runD step k (i + 1) q.1).map fun r => (r.1, q.2 ++ r.2)
def drawA (md : Bool) : DrawF := fun call nt ops st orc =>
  bif P.follows .mixedOrders && statOk ops (befs ops) then
    (runD (stepD P md call nt st.next ops (befs ops)) ops.size 0 ⟨st, orc, [], [], false⟩).map fun q => (q.1.st, q.1.orc, q.2)
  else none
end
theorem runD_seq {step : Nat → DS → Option (DS × List Prop)} : ∀ (k i : Nat) {s s' : DS} {ps : List Prop}, runD step k i s = some (s', ps) → (∀ p ∈ ps, p) → ∃ D : Nat → DS, D i = s ∧ D (i + k) = s' ∧ ∀ j, i ≤ j → j < i + k → ∃ q, step j (D j) = some (D (j + 1), q) ∧ ∀ p ∈ q, p
  | 0, i, s, s', ps, h, hp => by
    simp only [runD, Option.some.injEq, Prod.mk.injEq] at h
    obtain ⟨rfl, rfl⟩ := h
    exact ⟨fun _ => s, rfl, rfl, fun j h1 h2 => by omega⟩
  | k + 1, i, s, s', ps, h, hp => by
    unfold runD at h
    obtain ⟨q, hq, h1⟩ := Option.bind_eq_some_iff.1 h
    obtain ⟨r, hr, e⟩ := Option.map_eq_some_iff.1 h1
    cases e
    obtain ⟨D, d1, d2, d3⟩ := runD_seq k (i + 1) hr (fun p hp' => hp p (by simp [hp']))
    refine ⟨fun j => if j = i then s else D j, by simp, ?_, fun j h1 h2 => ?_⟩
    · simp only [show ¬ i + (k + 1) = i by omega, if_false]
      rw [← d2]; congr 1; omega
    · by_cases hj : j = i
      · subst hj
        simp only [if_true, show ¬ j + 1 = j by omega, if_false, d1]
        exact ⟨q.2, hq, fun p hp' => hp p (by simp [hp'])⟩
      · simp only [hj, if_false, show ¬ j + 1 = i by omega]
        exact d3 j (by omega) (by omega)
/-- what comes before -/
theorem orE_bit {ms : List Nat} {k : Nat} : ∀ {l : List Edge}, (orE ms l).testBit k = true → ∃ e ∈ l, Region.binds .any e = true ∧ (e.on = k ∨ (ms.getD e.on 0).testBit k = true)
  | [], h => by simp [orE] at h
  | e :: l, h => by
    unfold orE at h
    rw [Nat.testBit_or, Bool.or_eq_true] at h
    rcases h with h | h
    · cases hb : Region.binds .any e with
      | false => rw [hb] at h; simp at h
      | true =>
        rw [hb] at h
        simp only [cond_true, Nat.testBit_or, Bool.or_eq_true, Nat.testBit_two_pow, decide_eq_true_eq] at h
        exact ⟨e, by simp, hb, h⟩
    · obtain ⟨e', h1, h2⟩ := orE_bit h
      exact ⟨e', by simp [h1], h2⟩
theorem masks_spec : ∀ (l : List Oper) (acc : List Nat) (k : Nat), (∀ i, i < acc.length → (masks l acc).getD i 0 = acc.getD i 0) ∧ (∀ j o, l[j]? = some o → ∃ ms, (masks l acc).getD (acc.length + j) 0 = orE ms o.after.toList ∧ ∀ q, q < acc.length + j → ms.getD q 0 = (masks l acc).getD q 0)
  | [], acc, k => ⟨fun i _ => rfl, fun j o h => by simp at h⟩
  | o :: l, acc, k => by
    obtain ⟨h1, h2⟩ := masks_spec l (acc ++ [orE acc o.after.toList]) k
    have hl : (acc ++ [orE acc o.after.toList]).length = acc.length + 1 := by simp
    have h0 : ∀ i, i < acc.length → (masks (o :: l) acc).getD i 0 = acc.getD i 0 := fun i hi => by
      unfold masks
      rw [h1 i (by omega)]
      simp only [List.getD_eq_getElem?_getD]
      rw [List.getElem?_append_left hi]
    refine ⟨h0, fun j o' hj => ?_⟩
    cases j with
    | zero =>
      simp only [List.getElem?_cons_zero, Option.some.injEq] at hj
      subst hj
      refine ⟨acc, ?_, fun q hq => (h0 q (by omega)).symm⟩
      unfold masks
      rw [h1 _ (by omega)]
      simp [List.getD_eq_getElem?_getD]
    | succ j =>
      obtain ⟨ms, k1, k2⟩ := h2 j o' (by simpa using hj)
      refine ⟨ms, ?_, fun q hq => ?_⟩
      · unfold masks
        rw [← k1]; congr 1; omega
      · unfold masks
        exact k2 q (by omega)
theorem befs_bit {ops : Array Oper} {i k : Nat} {o : Oper} (ho : ops[i]? = some o) (haf : ∀ e ∈ o.after.toList, Region.binds .any e = true → e.on < i) (h : ((befs ops).getD i 0).testBit k = true) : ∃ e ∈ o.after.toList, Region.binds .any e = true ∧ (e.on = k ∨ ((befs ops).getD e.on 0).testBit k = true) := by
  obtain ⟨ms, h1, h2⟩ := (masks_spec ops.toList [] 0).2 i o (by rw [Array.getElem?_toList]; exact ho)
  simp only [List.length_nil, Nat.zero_add] at h1 h2
  unfold befs at h ⊢
  rw [h1] at h
  obtain ⟨e, k1, k2, k3⟩ := orE_bit h
  refine ⟨e, k1, k2, k3.imp (fun x => x) fun k3 => ?_⟩
  rw [← h2 e.on (haf e k1 k2)]
  exact k3
end Go.Proofs.Ytdbnfdcjibgikaa.Rx
