/- Merged: Rx19, Rx20, Rx21, Rx22, Rx23, Rx24. -/
import Derived.Test.YtjdiabjmphdhiaaMjC
import Derived.Orders
set_option linter.unusedVariables false
set_option linter.unusedSimpArgs false
set_option maxRecDepth 100000
namespace Go.Proofs.Ytjdiabjmphdhiaa.Rx
section
open Go.RowKit
/-- who must have come up before: sets of numbers as bits -/
def orE (ms : List Nat) : List Edge → Nat
  | [] => 0
  | e :: l => (bif Region.binds .any e then 2 ^ e.on ||| ms.getD e.on 0 else 0) ||| orE ms l
def masks : List Oper → List Nat → List Nat
  | [], acc => acc
  | o :: os, acc => masks os (acc ++ [orE acc o.after.toList])
def befs (ops : Array Oper) : List Nat := masks ops.toList []
def tmpsOf (o : Oper) (ops : Array Oper) : List Tmp :=
  (o.op.operands.toList.filterMap fun | .tmp t => some t | _ => none) ++ (match o.guard with
    | some (j, _) => ((ops[j]?).bind (·.dst)).toList
    | none => [])
/-- what the text alone must meet -/
def statOk (ops : Array Oper) (bs : List Nat) : Bool :=
  (List.range ops.size).all fun i => match ops[i]? with
    | none => false
    | some o => (o.after.toList.all fun e => !(Region.binds .any e) || Nat.blt e.on i) &&
      ((List.range ops.size).all fun k => match ops[k]? with
        | none => false
        | some p => match p.dst with
          | none => true
          | some d => (Nat.beq k i || !(o.dst == some d)) &&
            ((tmpsOf o ops).all fun t => !(Nat.beq t d) || Nat.beq k i || (bif Nat.blt k i then (bs.getD i 0).testBit k else (bs.getD k 0).testBit i)))
/-- what an operation touches: all of memory; does it take numbers; whom it reads; whom it writes -/
structure Tch where
  all : Bool
  nw : Bool
  rd : List Nat
  wr : List Nat
def Tch.any (t : Tch) : Bool := t.all || t.nw || !(t.rd.isEmpty) || !(t.wr.isEmpty)
def meetL (l l' : List Nat) : Bool := l.any fun x => l'.any (Nat.beq x)
/-- may two operations not change places? -/
def cfl (a b : Tch) : Bool := (a.all && b.any) || (b.all && a.any) || meetL a.wr b.wr || meetL a.wr b.rd || meetL a.rd b.wr
/-- how far the run in the order of the text has come: the state; what those that came touched -/
structure DS where
  st : St
  orc : List Orc
  tr : List (Nat × Tch)
def isCl (op : Op) (ρ : Operand → AV) (orc : List Orc) : Bool := match orc with
  | .cl .. :: _ => match op with
    | .call { callee := .value f, .. } => match ρ f with
      | .clo _ _ => true
      | _ => false
    | _ => false
  | _ => false
def isCp (op : Op) (ρ : Operand → AV) (orc : List Orc) : Bool := match orc with
  | .cp .. :: _ => match op with
    | .call { callee := .value f, .. } => match ρ f with
      | .clo _ _ => true
      | _ => false
    | _ => false
  | _ => false
/-- what a function has caught -/
def capsOf : AV → List AV
  | .clo _ caps => caps
  | _ => []
def newL (a b : Nat) : List Nat := (List.range (b - a)).map (a + ·)
section
variable (P : Program)
def evD (md : Bool) (call : CallF) (op : Op) (ρ : Operand → AV) (h : Nat → Option Blk) (next : Nat) (orc : List Orc) : Option Res :=
  evOp P md (bif isCl op ρ orc then callC (P := P) else bif isCp op ρ orc then callP (P := P) else call) op ρ h next orc
def rdD (op : Op) (ρ : Operand → AV) : List Nat := match op with
  | .call { callee := .value f, args, .. } => (args.toList.map ρ ++ capsOf (ρ f)).flatMap idsF
  | op => rdIds op ρ
/-- what a call that only looks may see -/
def cpIds (h : Nat → Option Blk) (op : Op) (ρ : Operand → AV) : List Nat := match op with
  | .call { callee := .value f, args, .. } => (args.toList.map ρ ++ capsOf (ρ f)).flatMap (pkIds h)
  | _ => []
/-- an address, told without a look at memory -/
def adrOnly (op : Op) (ρ : Operand → AV) : Bool := match op with
  | .fieldAddr _ x _ => match ρ x with
    | .bptr .. => true
    | _ => false
  | .indexAddr _ x _ => match ρ x with
    | .bptr .. => true
    | _ => false
  | _ => false
def tch0 : Tch := ⟨false, false, [], []⟩
def tchAll : Tch := ⟨true, true, [], []⟩
def tchOf (op : Op) (ρ : Operand → AV) (h : Nat → Option Blk) (next : Nat) (orc : List Orc) (r : Res) : Tch := match clsOf P op with
  | .pur => tch0
  | .read => bif adrOnly op ρ then tch0 else ⟨false, false, rdIds op ρ, []⟩
  | .make => bif fvO orc then tch0 else bif frzd h (rdIds op ρ) then ⟨false, true, rdIds op ρ, newL next r.next⟩ else tchAll
  | .write => match op with
    | .store _ x y => match ρ x with
      | .bptr id _ => ⟨false, false, [], [id]⟩
      | .eptr id _ _ _ _ => bif frzd h (idsF (ρ y)) then ⟨false, false, idsF (ρ y), [id]⟩ else tchAll
      | _ => tchAll
    | .call { callee := .builtin .append, args, .. } => match args.toList.map ρ with
      | [.nils, y] => ⟨false, true, idOf y, [next]⟩
      | [.own id _ _ _ _, y] => ⟨false, false, idOf y, [id]⟩
      | _ => tchAll
    | _ => tchAll
  | .call => bif isCl op ρ orc then (bif frzd h (rdD op ρ) then ⟨false, true, rdD op ρ, newL next r.next⟩ else tchAll)
    else bif isCp op ρ orc then ⟨false, false, cpIds h op ρ, []⟩ else tchAll
def stepD (md : Bool) (call : CallF) (nt : Nat) (ops : Array Oper) (bs : List Nat) (i : Nat) (s : DS) : Option (DS × List Prop) :=
  match ops[i]? with
  | none => none
  | some o => bif dstOk nt o.dst then (guardA ops o s.st.env s.orc).bind fun g => match g.1 with
    | false => some (⟨⟨putE s.st.env o.dst undA, s.st.heap, s.st.next⟩, g.2.1, (i, tch0) :: s.tr⟩, g.2.2)
    | true => (evD P md call o.op (evalA s.st.env) s.st.heap s.st.next g.2.1).bind fun r =>
      bif s.tr.all fun q => !(cfl (tchOf P o.op (evalA s.st.env) s.st.heap s.st.next g.2.1 r) q.2) || (bs.getD i 0).testBit q.1 then
        some (⟨⟨putE s.st.env o.dst r.v, r.heap, r.next⟩, r.orc, (i, tchOf P o.op (evalA s.st.env) s.st.heap s.st.next g.2.1 r) :: s.tr⟩, g.2.2 ++ r.cs) else none else none
def runD (step : Nat → DS → Option (DS × List Prop)) : Nat → Nat → DS → Option (DS × List Prop)
  | 0, _, s => some (s, [])
  | k + 1, i, s => (step i s).bind fun q => (runD step k (i + 1) q.1).map fun r => (r.1, q.2 ++ r.2)
def llTl : List Orc → List Orc
  | .ll _ :: orc => orc
  | orc => orc
def drawA (md : Bool) : DrawF := fun call nt ops st orc =>
  bif P.follows .mixedOrders && statOk ops (befs ops) then
    (runD (stepD P md call nt ops (befs ops)) ops.size 0 ⟨st, llTl orc, []⟩).map fun q => (q.1.st, q.1.orc, q.2)
  else none
end
theorem runD_seq {step : Nat → DS → Option (DS × List Prop)} : ∀ (k i : Nat) {s s' : DS} {ps : List Prop}, runD step k i s = some (s', ps) → (∀ p ∈ ps, p) → ∃ D : Nat → DS, D i = s ∧ D (i + k) = s' ∧ ∀ j, i ≤ j → j < i + k → ∃ q, step j (D j) = some (D (j + 1), q) ∧ ∀ p ∈ q, p
  | 0, i, s, s', ps, h, hp => by
    simp only [runD, Option.some.injEq, Prod.mk.injEq] at h
    obtain ⟨rfl, rfl⟩ := h
    exact ⟨fun _ => s, rfl, rfl, fun j h1 h2 => by omega⟩
  | k + 1, i, s, s', ps, h, hp => by
    unfold runD at h
    obtain ⟨q, hq, h1⟩ := Option.bind_eq_some_iff.1 h
    obtain ⟨r, hr, e⟩ := Option.map_eq_some_iff.1 h1
    cases e
    obtain ⟨D, d1, d2, d3⟩ := runD_seq k (i + 1) hr (fun p hp' => hp p (by simp [hp']))
    refine ⟨fun j => if j = i then s else D j, by simp, ?_, fun j h1 h2 => ?_⟩
    · simp only [show ¬ i + (k + 1) = i by omega, if_false]
      rw [← d2]; congr 1; omega
    · by_cases hj : j = i
      · subst hj
        simp only [if_true, show ¬ j + 1 = j by omega, if_false, d1]
        exact ⟨q.2, hq, fun p hp' => hp p (by simp [hp'])⟩
      · simp only [hj, if_false, show ¬ j + 1 = i by omega]
        exact d3 j (by omega) (by omega)
/-- what comes before -/
theorem orE_bit {ms : List Nat} {k : Nat} : ∀ {l : List Edge}, (orE ms l).testBit k = true → ∃ e ∈ l, Region.binds .any e = true ∧ (e.on = k ∨ (ms.getD e.on 0).testBit k = true)
  | [], h => by simp [orE] at h
  | e :: l, h => by
    unfold orE at h
    rw [Nat.testBit_or, Bool.or_eq_true] at h
    rcases h with h | h
    · cases hb : Region.binds .any e with
      | false => rw [hb] at h; simp at h
      | true =>
        rw [hb] at h
        simp only [cond_true, Nat.testBit_or, Bool.or_eq_true, Nat.testBit_two_pow, decide_eq_true_eq] at h
        exact ⟨e, by simp, hb, h⟩
    · obtain ⟨e', h1, h2⟩ := orE_bit h
      exact ⟨e', by simp [h1], h2⟩
theorem masks_spec : ∀ (l : List Oper) (acc : List Nat) (k : Nat), (∀ i, i < acc.length → (masks l acc).getD i 0 = acc.getD i 0) ∧ (∀ j o, l[j]? = some o → ∃ ms, (masks l acc).getD (acc.length + j) 0 = orE ms o.after.toList ∧ ∀ q, q < acc.length + j → ms.getD q 0 = (masks l acc).getD q 0)
  | [], acc, k => ⟨fun i _ => rfl, fun j o h => by simp at h⟩
  | o :: l, acc, k => by
    obtain ⟨h1, h2⟩ := masks_spec l (acc ++ [orE acc o.after.toList]) k
    have hl : (acc ++ [orE acc o.after.toList]).length = acc.length + 1 := by simp
    have h0 : ∀ i, i < acc.length → (masks (o :: l) acc).getD i 0 = acc.getD i 0 := fun i hi => by
      unfold masks
      rw [h1 i (by omega)]
      simp only [List.getD_eq_getElem?_getD]
      rw [List.getElem?_append_left hi]
    refine ⟨h0, fun j o' hj => ?_⟩
    cases j with
    | zero =>
      simp only [List.getElem?_cons_zero, Option.some.injEq] at hj
      subst hj
      refine ⟨acc, ?_, fun q hq => (h0 q (by omega)).symm⟩
      unfold masks
      rw [h1 _ (by omega)]
      simp [List.getD_eq_getElem?_getD]
    | succ j =>
      obtain ⟨ms, k1, k2⟩ := h2 j o' (by simpa using hj)
      refine ⟨ms, ?_, fun q hq => ?_⟩
      · unfold masks
        rw [← k1]; congr 1; omega
      · unfold masks
        exact k2 q (by omega)
theorem befs_bit {ops : Array Oper} {i k : Nat} {o : Oper} (ho : ops[i]? = some o) (haf : ∀ e ∈ o.after.toList, Region.binds .any e = true → e.on < i) (h : ((befs ops).getD i 0).testBit k = true) : ∃ e ∈ o.after.toList, Region.binds .any e = true ∧ (e.on = k ∨ ((befs ops).getD e.on 0).testBit k = true) := by
  obtain ⟨ms, h1, h2⟩ := (masks_spec ops.toList [] 0).2 i o (by rw [Array.getElem?_toList]; exact ho)
  simp only [List.length_nil, Nat.zero_add] at h1 h2
  unfold befs at h ⊢
  rw [h1] at h
  obtain ⟨e, k1, k2, k3⟩ := orE_bit h
  refine ⟨e, k1, k2, k3.imp (fun x => x) fun k3 => ?_⟩
  rw [← h2 e.on (haf e k1 k2)]
  exact k3
end
end Go.Proofs.Ytjdiabjmphdhiaa.Rx
namespace Go.Proofs.Ytjdiabjmphdhiaa.Rx
section
open Go.RowKit
section
variable {P : Program}
theorem stepD_inv {md : Bool} {call : CallF} {nt : Nat} {ops : Array Oper} {bs : List Nat} {i : Nat} {s s' : DS} {q : List Prop} (h : stepD P md call nt ops bs i s = some (s', q)) :
    ∃ o g, ops[i]? = some o ∧ dstOk nt o.dst = true ∧ guardA ops o s.st.env s.orc = some g ∧
      ((g.1 = false ∧ s'.st.env = putE s.st.env o.dst undA ∧ s'.st.heap = s.st.heap ∧ s'.st.next = s.st.next ∧ s'.tr = (i, tch0) :: s.tr ∧ q = g.2.2) ∨
       (g.1 = true ∧ ∃ r, evD P md call o.op (evalA s.st.env) s.st.heap s.st.next g.2.1 = some r ∧ q = g.2.2 ++ r.cs ∧ s'.st.env = putE s.st.env o.dst r.v ∧ s'.st.heap = r.heap ∧ s'.st.next = r.next ∧
        s'.tr = (i, tchOf P o.op (evalA s.st.env) s.st.heap s.st.next g.2.1 r) :: s.tr ∧ ∀ k u, (k, u) ∈ s.tr → cfl (tchOf P o.op (evalA s.st.env) s.st.heap s.st.next g.2.1 r) u = true → (bs.getD i 0).testBit k = true)) := by
  unfold stepD at h
  split at h
  · cases h
  · rename_i o ho
    obtain ⟨hd, h1⟩ := bif_some h
    clear h
    obtain ⟨g, hg, h2⟩ := Option.bind_eq_some_iff.1 h1
    clear h1
    refine ⟨o, g, ho, hd, hg, ?_⟩
    split at h2
    · rename_i hgf
      simp only [Option.some.injEq, Prod.mk.injEq] at h2
      obtain ⟨rfl, rfl⟩ := h2
      exact .inl ⟨hgf, rfl, rfl, rfl, rfl, rfl⟩
    · rename_i hgt
      obtain ⟨r, hr, h3⟩ := Option.bind_eq_some_iff.1 h2
      clear h2
      obtain ⟨hall, h4⟩ := bif_some h3
      simp only [Option.some.injEq, Prod.mk.injEq] at h4
      obtain ⟨rfl, rfl⟩ := h4
      refine .inr ⟨hgt, r, hr, rfl, rfl, rfl, rfl, rfl, fun k u hku hc => ?_⟩
      have := List.all_eq_true.1 hall (k, u) hku
      rw [hc] at this
      simpa using this
/-- what is called by contract -/
theorem isCl_inv {op : Op} {ρ : Operand → AV} {orc : List Orc} (h : isCl op ρ orc = true) : ∃ fo args at_ f caps a' r' H' tl, op = .call { callee := .value fo, args := args, argTypes := at_ } ∧ ρ fo = .clo f caps ∧ orc = .cl a' r' H' :: tl := by
  unfold isCl at h
  split at h
  · split at h
    · rename_i fo args at_
      split at h
      · rename_i f caps hf
        exact ⟨fo, args, at_, f, caps, _, _, _, _, rfl, hf, rfl⟩
      · cases h
    · cases h
  · cases h
theorem isCl_congr {op : Op} {ρ ρ' : Operand → AV} {orc : List Orc} (he : ∀ x ∈ op.operands.toList, ρ x = ρ' x) : isCl op ρ orc = isCl op ρ' orc := by
  unfold isCl
  split
  · split
    · rename_i fo args at_
      rw [he fo (by simp [Op.operands, Call.operands])]
    · rfl
  · rfl
theorem isCp_inv {op : Op} {ρ : Operand → AV} {orc : List Orc} (h : isCp op ρ orc = true) : ∃ fo args at_ f caps a' r' tl, op = .call { callee := .value fo, args := args, argTypes := at_ } ∧ ρ fo = .clo f caps ∧ orc = .cp a' r' :: tl := by
  unfold isCp at h
  split at h
  · split at h
    · rename_i fo args at_
      split at h
      · rename_i f caps hf
        exact ⟨fo, args, at_, f, caps, _, _, _, rfl, hf, rfl⟩
      · cases h
    · cases h
  · cases h
theorem isCp_congr {op : Op} {ρ ρ' : Operand → AV} {orc : List Orc} (he : ∀ x ∈ op.operands.toList, ρ x = ρ' x) : isCp op ρ orc = isCp op ρ' orc := by
  unfold isCp
  split
  · split
    · rename_i fo args at_
      rw [he fo (by simp [Op.operands, Call.operands])]
    · rfl
  · rfl
theorem isCp_cl {op : Op} {ρ : Operand → AV} {orc : List Orc} (h : isCp op ρ orc = true) : isCl op ρ orc = false := by
  obtain ⟨fo, args, at_, f, caps, a', r', tl, rfl, hf, rfl⟩ := isCp_inv h
  rfl
theorem isCp_cls {op : Op} {ρ : Operand → AV} {orc : List Orc} (h : isCp op ρ orc = true) : clsOf P op = .call := by
  obtain ⟨fo, args, at_, f, caps, a', r', tl, rfl, hf, rfl⟩ := isCp_inv h
  rfl
theorem isCl_cls {op : Op} {ρ : Operand → AV} {orc : List Orc} (h : isCl op ρ orc = true) : clsOf P op = .call := by
  obtain ⟨fo, args, at_, f, caps, a', r', H', tl, rfl, hf, rfl⟩ := isCl_inv h
  rfl
theorem evD_congr {md : Bool} {call : CallF} {op : Op} {ρ ρ' : Operand → AV} {h : Nat → Option Blk} {next : Nat} {orc : List Orc} (he : ∀ x ∈ op.operands.toList, ρ x = ρ' x) : evD P md call op ρ h next orc = evD P md call op ρ' h next orc := by
  unfold evD
  rw [isCl_congr he, isCp_congr he]
  exact evOp_congr he
/-- an operation turns what it writes, and hangs on what it touches, alone -/
structure Loc (P : Program) (md : Bool) (call : CallF) (op : Op) (ρ : Operand → AV) (orc : List Orc) (h : Nat → Option Blk) (next : Nat) (r : Res) (t : Tch) : Prop where
  le : next ≤ r.next
  nonew : t.nw = false → r.next = next
  old : ∀ id, id ∉ t.wr → r.heap id = h id
  wrs : ∀ id ∈ t.wr, (h id).isSome = true ∨ (next ≤ id ∧ id < r.next)
  new : ∀ id, next ≤ id → id < r.next → id ∈ t.wr
  loc : ∀ h' next', (t.nw = true → next' = next) → (∀ id ∈ t.rd, h' id = h id) → (∀ id ∈ t.wr, h' id = h id) →
    ∃ r', evD P md call op ρ h' next' orc = some r' ∧ r'.v = r.v ∧ r'.orc = r.orc ∧ r'.cs = r.cs ∧ (t.nw = true → r'.next = r.next) ∧ (t.nw = false → r'.next = next') ∧ (∀ id ∈ t.wr, r'.heap id = r.heap id) ∧ ∀ id, id ∉ t.wr → r'.heap id = h' id
theorem mem_newL {a b id : Nat} : id ∈ newL a b ↔ a ≤ id ∧ id < b := by
  unfold newL
  rw [List.mem_map]
  constructor
  · rintro ⟨k, hk, rfl⟩
    rw [List.mem_range] at hk
    omega
  · rintro ⟨h1, h2⟩
    exact ⟨id - a, List.mem_range.2 (by omega), by omega⟩
/-- a store, and an append, of one block -/
theorem storeA_loc {md : Bool} {t : TypeId} {x y : AV} {h : Nat → Option Blk} {q : (Nat → Option Blk) × List Prop} {id : Nat} (hid : (∃ off, x = .bptr id off) ∨ (∃ g m i j, x = .eptr id g m i j) ∧ frzd h (idsF y) = true) (hs : storeA P md t x y h = some q) :
    (h id).isSome = true ∧ ∃ b', q.1 = upd h id b' ∧ ∀ h', h' id = h id → ((∃ g m i j, x = .eptr id g m i j) → ∀ k ∈ idsF y, h' k = h k) → storeA P md t x y h' = some (upd h' id b', q.2) := by
  unfold storeA at hs
  obtain ⟨s, h1, h2⟩ := Option.bind_eq_some_iff.1 hs
  rcases hid with ⟨off, rfl⟩ | ⟨⟨g, m, i, j, rfl⟩, hf⟩
  · simp only at h2
    split at h2
    · rename_i gn e cs heq
      obtain ⟨vs, h3, h4⟩ := Option.bind_eq_some_iff.1 h2
      obtain ⟨hb, h5⟩ := bif_some h4
      simp only [Option.some.injEq] at h5; subst h5
      refine ⟨by rw [heq]; rfl, _, rfl, fun h' e1 _ => ?_⟩
      unfold storeA
      simp only [h1, Option.bind_some, e1, heq, h3, hb, cond_true]
    · cases h2
  · simp only at h2
    split at h2
    · rename_i gn e m' n f heq
      obtain ⟨vs, h3, h4⟩ := Option.bind_eq_some_iff.1 h2
      obtain ⟨hb, h5⟩ := bif_some h4
      obtain ⟨p, h6, rfl⟩ := Option.map_eq_some_iff.1 h5
      rw [frzIds_frzd _ _ hf]
      refine ⟨by rw [heq]; rfl, _, rfl, fun h' e1 e2 => ?_⟩
      have e3 := e2 ⟨g, m, i, j, rfl⟩
      have e4 : frz h' y = frz h y := frz_local e3
      have e5 : frzd h' (idsF y) = true := by rw [frzd_local e3]; exact hf
      unfold storeA
      simp only [h1, Option.bind_some, e1, heq, e4, h3, hb, cond_true, h6, Option.map_some, frzIds_frzd _ _ e5]
    · cases h2
theorem storeV_loc {t : TypeId} {y : AV} {h : Nat → Option Blk} {cs' : List AV} {q : (Nat → Option Blk) × List Prop} {id off : Nat} (hs : storeV P t (.bptr id off) y h cs' = some q) :
    (h id).isSome = true ∧ ∃ b', q.1 = upd h id b' ∧ ∀ h', h' id = h id → storeV P t (.bptr id off) y h' cs' = some (upd h' id b', q.2) := by
  unfold storeV at hs
  obtain ⟨s, h1, h2⟩ := Option.bind_eq_some_iff.1 hs
  simp only at h2
  split at h2
  · rename_i gn e cs heq
    obtain ⟨vs, h3, h4⟩ := Option.bind_eq_some_iff.1 h2
    obtain ⟨hb, h5⟩ := bif_some h4
    simp only [Option.some.injEq] at h5; subst h5
    refine ⟨by rw [heq]; rfl, _, rfl, fun h' e1 => ?_⟩
    unfold storeV
    simp only [h1, Option.bind_some, e1, heq, h3, hb, cond_true]
  · cases h2
theorem storeV_bptr {t : TypeId} {x y : AV} {h : Nat → Option Blk} {cs' : List AV} {q : (Nat → Option Blk) × List Prop} (hs : storeV P t x y h cs' = some q) : ∃ id off, x = .bptr id off := by
  unfold storeV at hs
  obtain ⟨s, h1, h2⟩ := Option.bind_eq_some_iff.1 hs
  split at h2
  · exact ⟨_, _, rfl⟩
  · cases h2
/-- one block is turned -/
theorem loc_upd {md : Bool} {call : CallF} {op : Op} {ρ : Operand → AV} {orc : List Orc} {h : Nat → Option Blk} {next : Nat} {r : Res} {id : Nat} {b' : Option Blk} {rd : List Nat} (hh : r.heap = upd h id b') (hn : r.next = next) (hs : (h id).isSome = true)
    (hl : ∀ h' next', (∀ k ∈ rd, h' k = h k) → h' id = h id → ∃ r', evD P md call op ρ h' next' orc = some r' ∧ r'.v = r.v ∧ r'.orc = r.orc ∧ r'.cs = r.cs ∧ r'.next = next' ∧ r'.heap = upd h' id b') : Loc P md call op ρ orc h next r ⟨false, false, rd, [id]⟩ := by
  refine ⟨by omega, fun _ => hn, fun k hk => ?_, fun k hk => ?_, fun k h1 h2 => by omega, fun h' next' _ h1 h2 => ?_⟩
  · rw [hh]; exact upd_other _ _ _ _ fun e => hk (by rw [e]; simp)
  · rw [List.mem_singleton.1 hk]; exact .inl hs
  · obtain ⟨r', k1, k2, k3, k4, k5, k6⟩ := hl h' next' h1 (h2 id (by simp))
    refine ⟨r', k1, k2, k3, k4, (fun e => by cases e), fun _ => k5, fun k hk => ?_, fun k hk => ?_⟩
    · rw [List.mem_singleton.1 hk, k6, hh, upd_same, upd_same]
    · rw [k6]; exact upd_other _ _ _ _ fun e => hk (by rw [e]; simp)
theorem evD_loc {md : Bool} {call : CallF} {op : Op} {ρ : Operand → AV} {h : Nat → Option Blk} {next : Nat} {orc : List Orc} {r : Res} (hr : evD P md call op ρ h next orc = some r) (hl : (tchOf P op ρ h next orc r).all = false) : Loc P md call op ρ orc h next r (tchOf P op ρ h next orc r) := by
  have quiet : ∀ rd : List Nat, r.heap = h → r.next = next → (∀ h' next', (∀ k ∈ rd, h' k = h k) → ∃ r', evD P md call op ρ h' next' orc = some r' ∧ r'.v = r.v ∧ r'.orc = r.orc ∧ r'.cs = r.cs ∧ r'.next = next' ∧ r'.heap = h') → Loc P md call op ρ orc h next r ⟨false, false, rd, []⟩ := by
    intro rd h1 h2 h3
    refine ⟨by omega, fun _ => h2, fun k _ => by rw [h1], (fun k hk => by cases hk), fun k k1 k2 => by omega, fun h' next' _ k1 _ => ?_⟩
    obtain ⟨r', q1, q2, q3, q4, q5, q6⟩ := h3 h' next' k1
    exact ⟨r', q1, q2, q3, q4, (fun e => by cases e), fun _ => q5, (fun k hk => by cases hk), fun k _ => by rw [q6]⟩
  have fresh : ∀ (rd : List Nat) (h1 : next ≤ r.next), (∀ id, ¬ (next ≤ id ∧ id < r.next) → r.heap id = h id) → (∀ h', (∀ k ∈ rd, h' k = h k) → ∃ r', evD P md call op ρ h' next orc = some r' ∧ r'.v = r.v ∧ r'.orc = r.orc ∧ r'.cs = r.cs ∧ r'.next = r.next ∧ (∀ id, next ≤ id → id < r.next → r'.heap id = r.heap id) ∧ ∀ id, ¬ (next ≤ id ∧ id < r.next) → r'.heap id = h' id) → ∀ wr, (∀ id, id ∈ wr ↔ next ≤ id ∧ id < r.next) → Loc P md call op ρ orc h next r ⟨false, true, rd, wr⟩ := by
    intro rd h1 h2 h3 wr hw
    refine ⟨h1, (fun e => by cases e), fun k hk => h2 k fun hn => hk ((hw k).2 hn), fun k hk => .inr ((hw k).1 hk), fun k k1 k2 => (hw k).2 ⟨k1, k2⟩, fun h' next' hn k1 _ => ?_⟩
    obtain rfl := hn rfl
    obtain ⟨r', q1, q2, q3, q4, q5, q6, q7⟩ := h3 h' k1
    exact ⟨r', q1, q2, q3, q4, fun _ => q5, (fun e => by cases e), fun k hk => q6 k ((hw k).1 hk).1 ((hw k).1 hk).2, fun k hk => q7 k fun hn => hk ((hw k).2 hn)⟩
  unfold tchOf at hl ⊢
  cases hc : clsOf P op with
  | pur =>
    simp only
    have hr0 := hr
    unfold evD evOp at hr0
    rw [hc] at hr0
    obtain ⟨q, hq, rfl⟩ := Option.map_eq_some_iff.1 hr0
    refine quiet [] rfl rfl fun h' next' _ => ⟨⟨q.v, h', next', q.orc, q.cs⟩, ?_, rfl, rfl, rfl, rfl, rfl⟩
    unfold evD evOp
    rw [hc]
    simp only
    rw [hq]
    rfl
  | read =>
    simp only
    have hr0 := hr
    unfold evD evOp at hr0
    rw [hc] at hr0
    obtain ⟨q, hq, rfl⟩ := Option.map_eq_some_iff.1 hr0
    have go : ∀ rd : List Nat, (∀ h', (∀ k ∈ rd, h' k = h k) → evRead P md op ρ h' orc = evRead P md op ρ h orc) → Loc P md call op ρ orc h next ⟨q.v, h, next, q.orc, q.cs⟩ ⟨false, false, rd, []⟩ := fun rd hrd =>
      quiet rd rfl rfl fun h' next' hk => ⟨⟨q.v, h', next', q.orc, q.cs⟩, by
        unfold evD evOp
        rw [hc]
        simp only
        rw [hrd h' hk, hq]
        rfl, rfl, rfl, rfl, rfl, rfl⟩
    cases ha : adrOnly op ρ with
    | true =>
      simp only [cond_true]
      refine go [] fun h' _ => ?_
      unfold adrOnly at ha
      split at ha
      · split at ha
        · rename_i hx
          simp only [evRead]
          unfold fieldAddrA
          rw [hx]
        · cases ha
      · split at ha
        · rename_i hx
          simp only [evRead]
          unfold indexAddrA
          rw [hx]
          rfl
        · cases ha
      · cases ha
    | false =>
      simp only [cond_false]
      exact go _ fun h' hk => evRead_local hk
  | make =>
    rw [hc] at hl
    simp only at hl ⊢
    have hr0 := hr
    unfold evD evOp at hr0
    rw [hc] at hr0
    simp only at hr0
    have back : ∀ h' next', evD P md call op ρ h' next' orc = evMake P md op ρ h' next' orc := fun h' next' => by
      unfold evD evOp
      rw [hc]
    cases hv : fvO orc with
    | true =>
      simp only [cond_true]
      have h0 := evFv_any (h' := h) (next' := next) hv hr0
      rw [hr0] at h0
      simp only [Option.some.injEq] at h0
      refine quiet [] (by rw [h0]) (by rw [h0]) fun h' next' _ => ⟨⟨r.v, h', next', r.orc, r.cs⟩, by rw [back]; exact evFv_any hv hr0, rfl, rfl, rfl, rfl, rfl⟩
    | false =>
      rw [hv] at hl
      simp only [cond_false] at hl ⊢
      cases hf : frzd h (rdIds op ρ) with
      | false => rw [hf] at hl; cases hl
      | true =>
        simp only [cond_true]
        obtain ⟨r0, _, _, _, _, _, k6, _⟩ := evMake_local (h' := h) hv (fun _ _ => rfl) hf hr0
        refine fresh _ k6.le (fun id hid => k6.old id hid) (fun h' hk => ?_) _ fun id => mem_newL
        obtain ⟨r', q1, q2, q3, q4, q5, q6, q7, q8⟩ := evMake_local (h' := h') hv (fun id hid => (hk id hid).symm) hf hr0
        exact ⟨r', by rw [back]; exact q1, q2, q3, q4, q5, q8, fun id hid => q7.old id hid⟩
  | write =>
    rw [hc] at hl
    simp only at hl ⊢
    have hr0 := hr
    unfold evD evOp at hr0
    rw [hc] at hr0
    simp only at hr0
    have back : ∀ h' next', evD P md call op ρ h' next' orc = evWrite P md op ρ h' next' orc := fun h' next' => by
      unfold evD evOp
      rw [hc]
    split at hl
    · rename_i t x y
      simp only [evWrite] at hr0
      have sv : ∀ cs' orc', orc = .sv cs' :: orc' → Loc P md call (.store t x y) ρ orc h next r (match ρ x with
          | .bptr id _ => ⟨false, false, [], [id]⟩
          | .eptr id _ _ _ _ => bif frzd h (idsF (ρ y)) then ⟨false, false, idsF (ρ y), [id]⟩ else tchAll
          | _ => tchAll) := by
        rintro cs' orc' rfl
        simp only at hr0
        obtain ⟨q, hq, rfl⟩ := Option.map_eq_some_iff.1 hr0
        obtain ⟨id, off, hx⟩ := storeV_bptr hq
        rw [hx] at hq
        obtain ⟨h1, b', h2, h3⟩ := storeV_loc hq
        rw [hx]
        refine loc_upd h2 rfl h1 fun h' next' _ e1 => ⟨⟨.junk, upd h' id b', next', orc', q.2⟩, ?_, rfl, rfl, rfl, rfl, rfl⟩
        rw [back]
        simp only [evWrite, hx, h3 h' e1, Option.map_some]
      split at hr0
      · exact sv _ _ rfl
      · rename_i hno
        have back2 : ∀ h' next', evWrite P md (.store t x y) ρ h' next' orc = (storeA P md t (ρ x) (ρ y) h').map fun r => ⟨.junk, r.1, next', orc, r.2⟩ := fun h' next' => by
          simp only [evWrite]
          all_goals first | rfl | (split; exact absurd rfl (hno _ _); rfl)
        obtain ⟨q, hq, rfl⟩ := Option.map_eq_some_iff.1 hr0
        split at hl
        · rename_i id off hx
          obtain ⟨h1, b', h2, h3⟩ := storeA_loc (.inl ⟨off, hx⟩) hq
          refine loc_upd h2 rfl h1 fun h' next' _ e1 => ⟨⟨.junk, upd h' id b', next', orc, q.2⟩, ?_, rfl, rfl, rfl, rfl, rfl⟩
          rw [back, back2, h3 h' e1 (by rintro ⟨g, m, i, j, e⟩; rw [hx] at e; cases e)]
          rfl
        · rename_i id g m i j hx
          cases hf : frzd h (idsF (ρ y)) with
          | false => rw [hf] at hl; cases hl
          | true =>
            simp only [cond_true]
            obtain ⟨h1, b', h2, h3⟩ := storeA_loc (.inr ⟨⟨g, m, i, j, hx⟩, hf⟩) hq
            refine loc_upd h2 rfl h1 fun h' next' hk e1 => ⟨⟨.junk, upd h' id b', next', orc, q.2⟩, ?_, rfl, rfl, rfl, rfl, rfl⟩
            rw [back, back2, h3 h' e1 (fun _ => hk)]
            rfl
        · cases hl
    · rename_i args at_
      simp only [evWrite] at hr0
      split at hr0
      · rename_i x y t t' e1 e2
        obtain ⟨hb, hr1⟩ := bif_some hr0
        have back2 : ∀ h' next', evD P md call (.call { callee := .builtin .append, args := args, argTypes := at_ }) ρ h' next' orc = appendA P md t (ρ x) (ρ y) h' next' orc := fun h' next' => by
          rw [back]
          simp only [evWrite, e1, e2, hb, cond_true]
        have hm : args.toList.map ρ = [ρ x, ρ y] := by rw [e1]; rfl
        rw [hm] at hl ⊢
        unfold appendA at hr1 back2
        split at hr1
        · rename_i e hu
          simp only [hu] at back2
          obtain ⟨i, hi, hr2⟩ := Option.bind_eq_some_iff.1 hr1
          obtain ⟨z, hz, hr3⟩ := Option.bind_eq_some_iff.1 hr2
          obtain ⟨hb2, hr4⟩ := bif_some hr3
          obtain ⟨q, hq, hr5⟩ := Option.bind_eq_some_iff.1 hr4
          simp only [hi, hz, Option.bind_some, hb2, cond_true] at back2
          split at hl
          · rename_i l' yy heq
            simp only [List.cons.injEq, and_true] at heq
            obtain ⟨hx, rfl⟩ := heq
            simp only [hx] at hr5 back2
            obtain ⟨p, hp, rfl⟩ := Option.map_eq_some_iff.1 hr5
            refine fresh _ (Nat.le_succ _) (fun id hid => upd_other _ _ _ _ (by simp only at hid; omega)) (fun h' hk => ?_) _ (fun id => by rw [List.mem_singleton]; simp only; omega)
            refine ⟨⟨.own next 0 i.size 0 q.1, upd h' next (some ⟨0, false, e, .rows i.size q.1 q.2⟩), next + 1, orc, p⟩, ?_, rfl, rfl, rfl, rfl, fun id h1 h2 => ?_, fun id hid => upd_other _ _ _ _ (by simp only at hid; omega)⟩
            · rw [back2, ← srcA_local (h := h) (h' := h') fun k hk' => (hk k hk').symm, hq]
              simp only [Option.bind_some, hp, Option.map_some]
            · have h2' : id < next + 1 := h2
              obtain rfl : id = next := by omega
              simp only [upd_same]
          · rename_i l' id g m off len yy heq
            simp only [List.cons.injEq, and_true] at heq
            obtain ⟨hx, rfl⟩ := heq
            simp only [hx] at hr5 back2
            split at hr5
            · rename_i g' e' m' n f hid
              obtain ⟨hb3, hr6⟩ := bif_some hr5
              obtain ⟨p, hp, rfl⟩ := Option.map_eq_some_iff.1 hr6
              refine loc_upd rfl rfl (by rw [hid]; rfl) fun h' next' hk e4 => ⟨⟨.own id (g + 1) m 0 (n + q.1), upd h' id _, next', orc, p⟩, ?_, rfl, rfl, rfl, rfl, rfl⟩
              rw [back2, ← srcA_local (h := h) (h' := h') fun k hk' => (hk k hk').symm, hq]
              simp only [Option.bind_some, e4, hid, hb3, cond_true, hp, Option.map_some]
            · cases hr5
          · cases hl
        · cases hr1
      · cases hr0
    · cases hl
  | call =>
    rw [hc] at hl
    simp only at hl ⊢
    cases hcl : isCl op ρ orc with
    | true =>
      rw [hcl] at hl
      simp only [cond_true] at hl ⊢
      cases hf : frzd h (rdD op ρ) with
      | false => rw [hf] at hl; cases hl
      | true =>
        simp only [cond_true]
        obtain ⟨fo, args, at_, f, caps, a', r', H', tl, rfl, hfo, rfl⟩ := isCl_inv hcl
        have back : ∀ h' next', evD P md call (.call { callee := .value fo, args := args, argTypes := at_ }) ρ h' next' (.cl a' r' H' :: tl) = callC (P := P) f (args.toList.map ρ ++ caps) h' next' (.cl a' r' H' :: tl) := fun h' next' => by
          unfold evD
          rw [hcl]
          simp only [cond_true, evOp, clsOf, hfo]
        rw [back] at hr
        have erd : rdD (.call { callee := .value fo, args := args, argTypes := at_ }) ρ = (args.toList.map ρ ++ caps).flatMap idsF := by unfold rdD; simp only [hfo, capsOf]
        rw [erd] at hf ⊢
        obtain ⟨r0, _, _, _, _, _, k6, _⟩ := callC_local (h' := h) (fun _ _ => rfl) hf hr
        refine fresh _ k6.le (fun id hid => k6.old id hid) (fun h' hk => ?_) _ fun id => mem_newL
        obtain ⟨r', q1, q2, q3, q4, q5, q6, q7, q8⟩ := callC_local (h' := h') (fun id hid => (hk id hid).symm) hf hr
        exact ⟨r', by rw [back]; exact q1, q2, q3, q4, q5, q8, fun id hid => q7.old id hid⟩
    | false =>
      rw [hcl] at hl
      simp only [cond_false] at hl ⊢
      cases hcp : isCp op ρ orc with
      | false => rw [hcp] at hl; cases hl
      | true =>
        simp only [cond_true]
        obtain ⟨fo, args, at_, f, caps, a', r', tl, rfl, hfo, rfl⟩ := isCp_inv hcp
        have back : ∀ h' next', evD P md call (.call { callee := .value fo, args := args, argTypes := at_ }) ρ h' next' (.cp a' r' :: tl) = callP (P := P) f (args.toList.map ρ ++ caps) h' next' (.cp a' r' :: tl) := fun h' next' => by
          unfold evD
          rw [hcl, hcp]
          simp only [cond_true, cond_false, evOp, clsOf, hfo]
        rw [back] at hr
        have erd : cpIds h (.call { callee := .value fo, args := args, argTypes := at_ }) ρ = (args.toList.map ρ ++ caps).flatMap (pkIds h) := by unfold cpIds; simp only [hfo, capsOf]
        rw [erd]
        have hr1 := hr
        unfold callP at hr1
        simp only at hr1
        obtain ⟨hb, hr2⟩ := bif_some hr1
        obtain ⟨p, hp, rfl⟩ := Option.map_eq_some_iff.1 hr2
        refine quiet _ rfl rfl fun h' next' hk => ?_
        have e1 : (args.toList.map ρ ++ caps).map (pk h) = (args.toList.map ρ ++ caps).map (pk h') := List.map_congr_left fun a ha => pk_local fun i hi => (hk i (List.mem_flatMap.2 ⟨a, ha, hi⟩)).symm
        refine ⟨⟨r', h', next', tl, p ++ [PureC P f a' r' []]⟩, ?_, rfl, rfl, rfl, rfl, rfl⟩
        rw [back]
        unfold callP
        simp only [hb, cond_true, ← e1, hp, Option.map_some]
/-- what writes and takes a number writes that -/
theorem tch_write {op : Op} {ρ : Operand → AV} {h : Nat → Option Blk} {next : Nat} {orc : List Orc} {r : Res} (hc : clsOf P op = .write) : (tchOf P op ρ h next orc r).nw = true → (tchOf P op ρ h next orc r).all = false → next ∈ (tchOf P op ρ h next orc r).wr := by
  unfold tchOf
  rw [hc]
  simp only
  cases op with
  | store t x y =>
    simp only
    generalize ρ x = v
    cases v with
    | bptr id off => intro h; cases h
    | eptr id g m i j =>
      simp only
      cases frzd h (idsF (ρ y)) with
      | true => intro h; cases h
      | false => intro _ h; cases h
    | _ => intro _ h; cases h
  | call c =>
    obtain ⟨callee, args, at_⟩ := c
    cases callee with
    | builtin b =>
      cases b with
      | append =>
        simp only
        generalize args.toList.map ρ = l
        split
        · intro _ _; exact List.mem_singleton.2 rfl
        · intro h; cases h
        · intro _ h; cases h
      | _ => intro _ h; cases h
    | _ => intro _ h; cases h
  | _ => intro _ h; cases h
/-- the call by contract, in the walk's own words -/
theorem callC_wp {cx : Cx} {md : Bool} {call : CallF} {o : Oper} {env : Nat → AV} {a : Act} {orc : List Orc} {next : Nat} {r : Res} (hcl : isCl o.op (evalA env) orc = true) (h : evD P md call o.op (evalA env) cx.H next orc = some r) (hp : ∀ p ∈ r.cs, p) (hc : CRep cx)
    (henv : ∀ t, Rep cx (env t) (a.tmps.getD t undef)) (hfree : ∀ i, next ≤ i → i < r.next → cx.H i = none)
    {K : Act → World → Prop} {Q : Exit → Act → World → Prop} (hK : ∀ cx' z, cx'.H = r.heap → CRep cx' → Stab cx cx' → Rep cx' r.v z → NewIds cx.H next r.heap r.next → K (a.put o.dst z) cx'.w) : o.wp P a cx.w K Q := by
  unfold evD at h
  rw [hcl] at h
  simp only [cond_true] at h
  have hcls : clsOf P o.op = .call := by
    obtain ⟨fo, args, at_, f, caps, a', r', H', tl, e, _, _⟩ := isCl_inv hcl
    rw [e]; rfl
  obtain ⟨f, avs, vs, h1, _, h3, h4, h5⟩ := evCall_base (cx := cx) (a := a) h hcls henv
  unfold callC at h1
  split at h1
  · rename_i args' res H tl
    obtain ⟨h6, h7⟩ := bif_some h1
    obtain ⟨p, hp', rfl⟩ := Option.map_eq_some_iff.1 h7
    rw [Bool.and_eq_true] at h6
    refine h5 K Q ?_ ((callC_ok h6.2 hp' (fun x hx => hp x (by simp [hx])) (hp (PureC P f args' res H) (by simp)) hc (fun i i1 i2 => hfree i i1 i2) vs h3 h4).mono ?_)
    · have h8 := h6.1
      unfold fnOk at h8
      split at h8
      · rename_i fn hfn
        simp only [Bool.and_eq_true, Bool.not_eq_true', beq_eq_false_iff_ne] at h8
        exact ⟨fn, hfn, h8.1, h8.2⟩
      · cases h8
    · rintro e w' ⟨z, cx', rfl, rfl, m3, m4, m5, m6, m7⟩
      exact ⟨z, rfl, hK cx' z m3 m4 m5 m6 m7⟩
  · cases h1
/-- the call that only looks, in the walk's own words -/
theorem callP_wp {cx : Cx} {md : Bool} {call : CallF} {o : Oper} {env : Nat → AV} {a : Act} {orc : List Orc} {next : Nat} {r : Res} (hcp : isCp o.op (evalA env) orc = true) (h : evD P md call o.op (evalA env) cx.H next orc = some r) (hp : ∀ p ∈ r.cs, p) (hc : CRep cx)
    (henv : ∀ t, Rep cx (env t) (a.tmps.getD t undef))
    {K : Act → World → Prop} {Q : Exit → Act → World → Prop} (hK : ∀ cx' z, cx'.H = r.heap → CRep cx' → Stab cx cx' → Rep cx' r.v z → r.heap = cx.H → r.next = next → K (a.put o.dst z) cx'.w) : o.wp P a cx.w K Q := by
  unfold evD at h
  rw [isCp_cl hcp, hcp] at h
  simp only [cond_true, cond_false] at h
  obtain ⟨f, avs, vs, h1, _, h3, h4, h5⟩ := evCall_base (cx := cx) (a := a) h (isCp_cls hcp) henv
  unfold callP at h1
  split at h1
  · rename_i args' res tl
    obtain ⟨h6, h7⟩ := bif_some h1
    obtain ⟨p, hp', rfl⟩ := Option.map_eq_some_iff.1 h7
    rw [Bool.and_eq_true] at h6
    refine h5 K Q ?_ ((callP_ok h6.2 hp' (fun x hx => hp x (by simp [hx])) (hp (PureC P f args' res []) (by simp)) hc vs h3 h4).mono ?_)
    · have h8 := h6.1
      unfold fnOk at h8
      split at h8
      · rename_i fn hfn
        simp only [Bool.and_eq_true, Bool.not_eq_true', beq_eq_false_iff_ne] at h8
        exact ⟨fn, hfn, h8.1, h8.2⟩
      · cases h8
    · rintro e w' ⟨z, cx', rfl, rfl, m3, m4, m5, m6⟩
      exact ⟨z, rfl, hK cx' z m3 m4 m5 m6 rfl rfl⟩
  · cases h1
end
end
end Go.Proofs.Ytjdiabjmphdhiaa.Rx
namespace Go.Proofs.Ytjdiabjmphdhiaa.Rx
section
open Go.RowKit
section
variable {P : Program}
/-- the run in the order of the text; what each touches -/
structure SeqD (P : Program) (T : Nat → Tch) (md : Bool) (call : CallF) (nt : Nat) (ops : Array Oper) (st : St) (D : Nat → DS) : Prop where
  st0 : (D 0).st = st
  tr0 : (D 0).tr = []
  step : ∀ j, j < ops.size → ∃ q, stepD P md call nt ops (befs ops) j (D j) = some (D (j + 1), q) ∧ ∀ p ∈ q, p
  tr : ∀ j, j < ops.size → (D (j + 1)).tr = (j, T j) :: (D j).tr
  lt : ∀ i, (st.heap i).isSome = true → i < st.next
variable {T : Nat → Tch} {md : Bool} {call : CallF} {nt : Nat} {ops : Array Oper} {st : St} {D : Nat → DS}
theorem SeqD.env_step (h : SeqD P T md call nt ops st D) {j : Nat} {o : Oper} (ho : ops[j]? = some o) : ∃ v, (D (j + 1)).st.env = putE (D j).st.env o.dst v := by
  have hj : j < ops.size := (Array.getElem?_eq_some_iff.1 ho).1
  obtain ⟨q, hq, _⟩ := h.step j hj
  obtain ⟨o', g, h0, _, _, h1⟩ := stepD_inv hq
  obtain rfl : o = o' := by rw [ho] at h0; exact Option.some.inj h0
  rcases h1 with ⟨_, he, _⟩ | ⟨_, r, _, _, he, _⟩
  · exact ⟨_, he⟩
  · exact ⟨_, he⟩
theorem putE_other {env : Nat → AV} {dst : Option Tmp} {v : AV} {t : Tmp} (h : dst ≠ some t) : putE env dst v t = env t := by
  cases dst with
  | none => rfl
  | some d => exact upd_other _ _ _ _ fun e => h (by rw [e])
theorem putE_same {env : Nat → AV} {dst : Option Tmp} {v : AV} {t : Tmp} (h : dst = some t) : putE env dst v t = v := by
  subst h
  exact upd_same _ _ _
theorem SeqD.env_keep (h : SeqD P T md call nt ops st D) {t : Tmp} {a : Nat} : ∀ (b : Nat), a ≤ b → b ≤ ops.size → (∀ j o, a ≤ j → j < b → ops[j]? = some o → o.dst ≠ some t) → (D b).st.env t = (D a).st.env t
  | 0, h1, h2, h3 => by obtain rfl : a = 0 := by omega
                        rfl
  | b + 1, h1, h2, h3 => by
    by_cases e : a = b + 1
    · subst e; rfl
    · rw [← h.env_keep b (by omega) (by omega) fun j o j1 j2 j3 => h3 j o j1 (by omega) j3]
      have hb : b < ops.size := by omega
      obtain ⟨v, hv⟩ := h.env_step (Array.getElem?_eq_getElem hb)
      rw [hv]
      exact putE_other (h3 b _ (by omega) (by omega) (Array.getElem?_eq_getElem hb))
theorem SeqD.mem (h : SeqD P T md call nt ops st D) {k : Nat} : ∀ (j : Nat), j ≤ ops.size → k < j → (k, T k) ∈ (D j).tr
  | 0, _, hk => by omega
  | j + 1, hj, hk => by
    rw [h.tr j (by omega)]
    by_cases e : k = j
    · subst e; exact List.mem_cons_self ..
    · exact List.mem_cons_of_mem _ (h.mem j (by omega) (by omega))
/-- does it write that block? does it touch it? -/
def wrsT (t : Tch) (id : Nat) : Prop := t.all = true ∨ id ∈ t.wr
def tchT (t : Tch) (id : Nat) : Prop := t.all = true ∨ id ∈ t.wr ∨ id ∈ t.rd
theorem meetL_mem {l l' : List Nat} {x : Nat} (h1 : x ∈ l) (h2 : x ∈ l') : meetL l l' = true :=
  List.any_eq_true.2 ⟨x, h1, List.any_eq_true.2 ⟨x, h2, Nat.beq_refl x⟩⟩
theorem any_of {t : Tch} {id : Nat} (h : tchT t id) : t.any = true := by
  unfold Tch.any
  rcases h with h | h | h
  · rw [h]; rfl
  · cases hw : t.wr with
    | nil => rw [hw] at h; cases h
    | cons a l => simp
  · cases hw : t.rd with
    | nil => rw [hw] at h; cases h
    | cons a l => simp
theorem cfl_wt {a b : Tch} {id : Nat} (h1 : wrsT a id) (h2 : tchT b id) : cfl a b = true ∧ cfl b a = true := by
  have ha := any_of (id := id) (t := a) (h1.imp_right .inl)
  have hb := any_of h2
  unfold cfl
  rcases h1 with h1 | h1
  · rw [h1, hb]
    constructor <;> simp
  · rcases h2 with h2 | h2 | h2
    · rw [h2, ha]
      constructor <;> simp
    · have e1 := meetL_mem h1 h2
      have e2 := meetL_mem h2 h1
      rw [e1, e2]
      constructor <;> simp
    · have e1 := meetL_mem h1 h2
      have e2 := meetL_mem h2 h1
      rw [e1, e2]
      constructor <;> simp
/-- what each step is -/
theorem SeqD.at_ (h : SeqD P T md call nt ops st D) {i : Nat} (hi : i < ops.size) : ∃ o g, ops[i]? = some o ∧ dstOk nt o.dst = true ∧ guardA ops o (D i).st.env (D i).orc = some g ∧
    ((g.1 = false ∧ (D (i + 1)).st.env = putE (D i).st.env o.dst undA ∧ (D (i + 1)).st.heap = (D i).st.heap ∧ (D (i + 1)).st.next = (D i).st.next ∧ T i = tch0 ∧ ∀ p ∈ g.2.2, p) ∨
     (g.1 = true ∧ ∃ r, evD P md call o.op (evalA (D i).st.env) (D i).st.heap (D i).st.next g.2.1 = some r ∧ (∀ p ∈ g.2.2, p) ∧ (∀ p ∈ r.cs, p) ∧ (D (i + 1)).st.env = putE (D i).st.env o.dst r.v ∧ (D (i + 1)).st.heap = r.heap ∧ (D (i + 1)).st.next = r.next ∧
      T i = tchOf P o.op (evalA (D i).st.env) (D i).st.heap (D i).st.next g.2.1 r)) ∧ ∀ k, k < i → cfl (T i) (T k) = true → ((befs ops).getD i 0).testBit k = true := by
  obtain ⟨q, hq, hp⟩ := h.step i hi
  obtain ⟨o, g, ho, hd, hg, h1⟩ := stepD_inv hq
  have ht := h.tr i hi
  refine ⟨o, g, ho, hd, hg, ?_⟩
  rcases h1 with ⟨e1, e2, e3, e4, e5, rfl⟩ | ⟨e1, r, e2, rfl, e3, e4, e5, e6, e7⟩
  · rw [ht] at e5
    simp only [List.cons.injEq, Prod.mk.injEq, true_and, and_true] at e5
    refine ⟨.inl ⟨e1, e2, e3, e4, e5, hp⟩, fun k hk hc => ?_⟩
    rw [e5] at hc
    unfold cfl tch0 Tch.any meetL at hc
    simp at hc
  · rw [ht] at e6
    simp only [List.cons.injEq, Prod.mk.injEq, true_and, and_true] at e6
    refine ⟨.inr ⟨e1, r, e2, fun p hp' => hp p (List.mem_append_left _ hp'), fun p hp' => hp p (List.mem_append_right _ hp'), e3, e4, e5, e6⟩, fun k hk hc => e7 k _ (h.mem i (by omega) hk) (by rw [← e6]; exact hc)⟩
/-- what an operation does not write stays -/
theorem SeqD.stays (h : SeqD P T md call nt ops st D) {i id : Nat} (hi : i < ops.size) (hn : ¬ wrsT (T i) id) : (D (i + 1)).st.heap id = (D i).st.heap id := by
  obtain ⟨o, g, ho, hd, hg, h1, _⟩ := h.at_ hi
  rcases h1 with ⟨_, _, e3, _⟩ | ⟨_, r, e2, _, _, _, e4, _, e6⟩
  · rw [e3]
  · rw [e4]
    have ha : (T i).all = false := by
      cases hx : (T i).all with
      | false => rfl
      | true => exact absurd (.inl hx) hn
    rw [e6] at ha
    exact (evD_loc e2 ha).old id fun hm => hn (.inr (by rw [e6]; exact hm))
theorem SeqD.keepId (h : SeqD P T md call nt ops st D) {a id : Nat} : ∀ (b : Nat), a ≤ b → b ≤ ops.size → (∀ j, a ≤ j → j < b → ¬ wrsT (T j) id) → (D b).st.heap id = (D a).st.heap id
  | 0, h1, h2, h3 => by obtain rfl : a = 0 := by omega
                        rfl
  | b + 1, h1, h2, h3 => by
    by_cases e : a = b + 1
    · subst e; rfl
    · rw [h.stays (by omega) (h3 b (by omega) (by omega))]
      exact h.keepId b (by omega) (by omega) fun j j1 j2 => h3 j j1 (by omega)
/-- all blocks have numbers below -/
def Bnd (s : DS) : Prop := ∀ id, (s.st.heap id).isSome = true → id < s.st.next
theorem SeqD.bnd_step (h : SeqD P T md call nt ops st D) {i : Nat} (hi : i < ops.size) (ha : (T i).all = false) (hb : Bnd (D i)) : Bnd (D (i + 1)) := by
  obtain ⟨o, g, ho, hd, hg, h1, _⟩ := h.at_ hi
  rcases h1 with ⟨_, _, e3, e4, _⟩ | ⟨_, r, e2, _, _, _, e4, e5, e6⟩
  · intro id hid
    rw [e4]; rw [e3] at hid
    exact hb id hid
  · rw [e6] at ha
    have L := evD_loc e2 ha
    intro id hid
    rw [e5]; rw [e4] at hid
    by_cases hw : id ∈ (tchOf P o.op (evalA (D i).st.env) (D i).st.heap (D i).st.next g.2.1 r).wr
    · rcases L.wrs id hw with h2 | h2
      · exact Nat.lt_of_lt_of_le (hb id h2) L.le
      · exact h2.2
    · rw [L.old id hw] at hid
      exact Nat.lt_of_lt_of_le (hb id hid) L.le
theorem SeqD.bnd (h : SeqD P T md call nt ops st D) {a : Nat} (hb : Bnd (D a)) : ∀ (b : Nat), a ≤ b → b ≤ ops.size → (∀ j, a ≤ j → j < b → (T j).all = false) → Bnd (D b)
  | 0, h1, h2, h3 => by obtain rfl : a = 0 := by omega
                        exact hb
  | b + 1, h1, h2, h3 => by
    by_cases e : a = b + 1
    · subst e; exact hb
    · exact h.bnd_step (by omega) (h3 b (by omega) (by omega)) (h.bnd hb b (by omega) (by omega) fun j j1 j2 => h3 j j1 (by omega))
/-- the last one that writes a block, below a bound -/
theorem lastW (Q : Nat → Prop) [DecidablePred Q] : ∀ n, (∃ k, k < n ∧ Q k ∧ ∀ j, j < n → Q j → j ≤ k) ∨ ∀ k, k < n → ¬ Q k
  | 0 => .inr fun k hk => by omega
  | n + 1 => by
    by_cases h : Q n
    · exact .inl ⟨n, by omega, h, fun j hj _ => by omega⟩
    · rcases lastW Q n with ⟨k, k1, k2, k3⟩ | h2
      · refine .inl ⟨k, by omega, k2, fun j hj hq => ?_⟩
        by_cases e : j = n
        · rw [e] at hq; exact absurd hq h
        · exact k3 j (by omega) hq
      · refine .inr fun k hk hq => ?_
        by_cases e : k = n
        · rw [e] at hq; exact h hq
        · exact h2 k (by omega) hq
/-- what the text alone meets -/
theorem statOk_after {bs : List Nat} (h : statOk ops bs = true) {i : Nat} {o : Oper} (ho : ops[i]? = some o) : ∀ e ∈ o.after.toList, Region.binds .any e = true → e.on < i := by
  unfold statOk at h
  have hi : i < ops.size := (Array.getElem?_eq_some_iff.1 ho).1
  have := List.all_eq_true.1 h i (List.mem_range.2 hi)
  rw [ho] at this
  simp only [Bool.and_eq_true] at this
  intro e he hb
  have h1 := List.all_eq_true.1 this.1 e he
  rw [hb] at h1
  simp only [Bool.not_true, Bool.false_or] at h1
  exact Nat.blt_eq ▸ h1
theorem statOk_dst {bs : List Nat} (h : statOk ops bs = true) {i k d : Nat} {o p : Oper} (ho : ops[i]? = some o) (hp : ops[k]? = some p) (hd : p.dst = some d) :
    (k = i ∨ o.dst ≠ some d) ∧ (d ∈ tmpsOf o ops → k = i ∨ (k < i ∧ (bs.getD i 0).testBit k = true) ∨ (¬ k < i ∧ (bs.getD k 0).testBit i = true)) := by
  unfold statOk at h
  have hi : i < ops.size := (Array.getElem?_eq_some_iff.1 ho).1
  have hk : k < ops.size := (Array.getElem?_eq_some_iff.1 hp).1
  have := List.all_eq_true.1 h i (List.mem_range.2 hi)
  rw [ho] at this
  simp only [Bool.and_eq_true] at this
  have h2 := List.all_eq_true.1 this.2 k (List.mem_range.2 hk)
  rw [hp] at h2
  simp only [hd, Bool.and_eq_true] at h2
  refine ⟨?_, fun hm => ?_⟩
  · have h3 := h2.1
    rw [Bool.or_eq_true, Nat.beq_eq] at h3
    exact h3.imp id fun h4 => by simpa using h4
  · have h3 := List.all_eq_true.1 h2.2 d hm
    simp only [Bool.or_eq_true, Nat.beq_eq, Bool.not_eq_true'] at h3
    rcases h3 with (h3 | h3) | h3
    · exact absurd h3 (by simp)
    · exact .inl h3
    · by_cases hlt : k < i
      · have : Nat.blt k i = true := by rw [Nat.blt_eq]; exact hlt
        rw [this] at h3
        exact .inr (.inl ⟨hlt, h3⟩)
      · have : Nat.blt k i = false := by
          cases hb : Nat.blt k i with
          | false => rfl
          | true => rw [Nat.blt_eq] at hb; exact absurd hb hlt
        rw [this] at h3
        exact .inr (.inr ⟨hlt, h3⟩)
/-- who came up -/
def Up (listed : Array Bool) (k : Nat) : Prop := listed.getD k false = true
structure Closed (ops : Array Oper) (listed : Array Bool) : Prop where
  sz : listed.size = ops.size
  cl : ∀ (k : Nat) o, ops[k]? = some o → Up listed k → ∀ e ∈ o.after.toList, Region.binds .any e = true → Up listed e.on
theorem up_lt {listed : Array Bool} {k : Nat} (h : Up listed k) : k < listed.size := by
  rcases Nat.lt_or_ge k listed.size with h' | h'
  · exact h'
  · simp [Up, Array.getElem?_eq_none h'] at h
theorem up_set {listed : Array Bool} {i k : Nat} (hi : i < listed.size) : Up (listed.setIfInBounds i true) k ↔ k = i ∨ Up listed k := by
  unfold Up
  by_cases e : i = k
  · subst e
    simp [hi]
  · rw [getD_set_ne false e]
    constructor
    · exact .inr
    · rintro (h | h)
      · exact absurd h.symm e
      · exact h
theorem Closed.bef {listed : Array Bool} (h : Closed ops listed) (hs : statOk ops (befs ops) = true) : ∀ (k : Nat), Up listed k → ∀ i, ((befs ops).getD k 0).testBit i = true → Up listed i := by
  intro k
  induction k using Nat.strongRecOn with
  | _ k ih =>
    intro hk i hb
    have hlt : k < ops.size := by rw [← h.sz]; exact up_lt hk
    have ho := Array.getElem?_eq_getElem hlt
    obtain ⟨e, h1, h2, h3⟩ := befs_bit ho (statOk_after hs ho) hb
    have hu := h.cl k _ ho hk e h1 h2
    rcases h3 with rfl | h3
    · exact hu
    · exact ih e.on (statOk_after hs ho e h1 h2) hu i h3
theorem Closed.ready {listed : Array Bool} (h : Closed ops listed) {i : Nat} (hr : i ∈ Region.ready .any ops listed) : ¬ Up listed i ∧ i < ops.size ∧ Closed ops (listed.setIfInBounds i true) := by
  obtain ⟨h0, o, ho, hall⟩ := mem_ready.1 hr
  have hi : i < ops.size := (Array.getElem?_eq_some_iff.1 ho).1
  have hi' : i < listed.size := by rw [h.sz]; exact hi
  refine ⟨fun hu => ?_, hi, ⟨by rw [Array.size_setIfInBounds]; exact h.sz, fun k o' ho' hu e he hb => ?_⟩⟩
  · unfold Up at hu
    rw [Array.getD_eq_getD_getElem?, Array.getElem?_eq_getElem hi'] at hu h0
    simp only [Option.getD_some] at hu h0
    rw [hu] at h0; cases h0
  · rw [up_set hi'] at hu ⊢
    rcases hu with rfl | hu
    · rw [ho] at ho'
      cases ho'
      exact .inr (hall e (by simpa using he) hb)
    · exact .inr (h.cl k o' ho' hu e he hb)
theorem Closed.done {listed : Array Bool} (h : Closed ops listed) (hs : statOk ops (befs ops) = true) (hr : Region.ready .any ops listed = []) : ∀ k, k < ops.size → Up listed k := by
  intro k
  induction k using Nat.strongRecOn with
  | _ k ih =>
    intro hk
    by_cases hu : Up listed k
    · exact hu
    · exfalso
      have ho := Array.getElem?_eq_getElem hk
      have hk' : k < listed.size := by rw [h.sz]; exact hk
      have : k ∈ Region.ready .any ops listed := by
        refine mem_ready.2 ⟨?_, _, ho, fun e he hb => ?_⟩
        · unfold Up at hu
          rw [Array.getD_eq_getD_getElem?, Array.getElem?_eq_getElem hk'] at hu ⊢
          simpa using hu
        · have hlt := statOk_after hs ho e (by simpa using he) hb
          exact ih e.on hlt (by omega)
      rw [hr] at this
      cases this
theorem count_lt {l : List Nat} {p p' : Nat → Bool} {i : Nat} (hi : i ∈ l) (h1 : p i = true) (h2 : p' i = false) (hm : ∀ x, p' x = true → p x = true) : l.countP p' < l.countP p := by
  induction l with
  | nil => cases hi
  | cons a l ih =>
    rw [List.countP_cons, List.countP_cons]
    have hle : l.countP p' ≤ l.countP p := List.countP_mono_left fun x _ h => hm x h
    rcases List.mem_cons.1 hi with rfl | hi
    · rw [h1, h2]; simp; omega
    · have := ih hi
      have h3 : (if p' a = true then 1 else 0) ≤ (if p a = true then 1 else 0) := by
        by_cases e : p' a = true
        · rw [if_pos e, if_pos (hm a e)]; omega
        · rw [if_neg e]; omega
      omega
end
end
end Go.Proofs.Ytjdiabjmphdhiaa.Rx
namespace Go.Proofs.Ytjdiabjmphdhiaa.Rx
section
open Go.RowKit
section
variable {P : Program} {T : Nat → Tch} {md : Bool} {call : CallF} {nt : Nat} {ops : Array Oper} {st : St} {D : Nat → DS}
/-- each block is as the last one that wrote it, of those that came up, has left it -/
def HpI (T : Nat → Tch) (ops : Array Oper) (st : St) (D : Nat → DS) (listed : Array Bool) (H : Nat → Option Blk) : Prop :=
  ∀ id, (∃ k, k < ops.size ∧ Up listed k ∧ wrsT (T k) id ∧ (∀ j, j < ops.size → Up listed j → wrsT (T j) id → j ≤ k) ∧ H id = (D (k + 1)).st.heap id) ∨ ((∀ j, j < ops.size → Up listed j → ¬ wrsT (T j) id) ∧ H id = st.heap id)
structure EnvI (ops : Array Oper) (st : St) (D : Nat → DS) (listed : Array Bool) (e : Nat → AV) : Prop where
  e1 : ∀ (k : Nat) o t, ops[k]? = some o → o.dst = some t → Up listed k → e t = (D (k + 1)).st.env t
  e2 : ∀ t, (∀ (k : Nat) o, ops[k]? = some o → o.dst = some t → ¬ Up listed k) → e t = st.env t
theorem EnvI.put {listed : Array Bool} {e : Nat → AV} (h : EnvI ops st D listed e) (hs : statOk ops (befs ops) = true) {i : Nat} {o : Oper} (ho : ops[i]? = some o) (hi : i < listed.size) {v : AV} (hv : (D (i + 1)).st.env = putE (D i).st.env o.dst v) : EnvI ops st D (listed.setIfInBounds i true) (putE e o.dst v) := by
  refine ⟨fun k p t hp hd hu => ?_, fun t hno => ?_⟩
  · rcases (up_set hi).1 hu with rfl | hu'
    · rw [ho] at hp; cases hp
      rw [hv, putE_same hd, putE_same hd]
    · by_cases hk : k = i
      · subst hk
        rw [ho] at hp; cases hp
        rw [hv, putE_same hd, putE_same hd]
      · have := (statOk_dst hs ho hp hd).1
        rw [putE_other (this.resolve_left hk)]
        exact h.e1 k p t hp hd hu'
  · rw [putE_other fun hd => hno i o ho hd ((up_set hi).2 (.inl rfl))]
    exact h.e2 t fun k p hp hd hu => hno k p hp hd ((up_set hi).2 (.inr hu))
/-- what i looks at is as it is in the order of the text -/
theorem EnvI.agree {listed : Array Bool} {e : Nat → AV} (h : EnvI ops st D listed e) (hD : SeqD P T md call nt ops st D) (hs : statOk ops (befs ops) = true) (hc : Closed ops listed) {i : Nat} (hr : i ∈ Region.ready .any ops listed) {o : Oper} (ho : ops[i]? = some o) {t : Tmp} (ht : t ∈ tmpsOf o ops) : e t = (D i).st.env t := by
  obtain ⟨hnu, hi, hc'⟩ := hc.ready hr
  have hi' : i < listed.size := by rw [hc.sz]; exact hi
  have uniq : ∀ (k k' : Nat) p p', ops[k]? = some p → ops[k']? = some p' → p.dst = some t → p'.dst = some t → k = k' := fun k k' p p' h1 h2 h3 h4 => by
    have := (statOk_dst hs h2 h1 h3).1
    exact this.resolve_right fun hn => hn h4
  by_cases hex : ∃ (k : Nat) (p : Oper), ops[k]? = some p ∧ p.dst = some t
  · obtain ⟨k, p, hp, hd⟩ := hex
    have hk : k < ops.size := (Array.getElem?_eq_some_iff.1 hp).1
    have late : ¬ k < i → ¬ Up listed k → e t = (D i).st.env t := fun h1 h2 => by
      rw [h.e2 t fun k' p' hp' hd' hu => h2 (uniq k k' p p' hp hp' hd hd' ▸ hu)]
      have := hD.env_keep (t := t) (a := 0) i (by omega) (by omega) fun j o' j1 j2 j3 j4 => by
        have := uniq k j p o' hp j3 hd j4
        omega
      rw [this, hD.st0]
    rcases (statOk_dst hs ho hp hd).2 ht with rfl | ⟨h1, h2⟩ | ⟨h1, h2⟩
    · exact late (by omega) hnu
    · have hu : Up listed k := by
        have := (hc'.bef hs i ((up_set hi').2 (.inl rfl)) k h2)
        rcases (up_set hi').1 this with rfl | hu
        · omega
        · exact hu
      rw [h.e1 k p t hp hd hu]
      exact (hD.env_keep (t := t) (a := k + 1) i (by omega) (by omega) fun j o' j1 j2 j3 j4 => by
        have := uniq k j p o' hp j3 hd j4
        omega).symm
    · exact late h1 fun hu => hnu (hc.bef hs k hu i h2)
  · rw [h.e2 t fun k p hp hd => absurd ⟨k, p, hp, hd⟩ hex]
    have := hD.env_keep (t := t) (a := 0) i (by omega) (by omega) fun j o' j1 j2 j3 j4 => hex ⟨j, o', j3, j4⟩
    rw [this, hD.st0]
theorem agree_eval {o : Oper} {e e' : Nat → AV} (h : ∀ t ∈ tmpsOf o ops, e t = e' t) : ∀ x ∈ o.op.operands.toList, evalA e x = evalA e' x := fun x hx => by
  cases x with
  | tmp t => exact h t (by
      unfold tmpsOf
      rw [List.mem_append]
      exact .inl (List.mem_filterMap.2 ⟨.tmp t, hx, rfl⟩))
  | _ => rfl
theorem agree_guard {o : Oper} {e e' : Nat → AV} (h : ∀ t ∈ tmpsOf o ops, e t = e' t) {orc : List Orc} : guardA ops o e orc = guardA ops o e' orc := by
  unfold guardA
  cases hg : o.guard with
  | none => rfl
  | some p =>
    obtain ⟨j, want⟩ := p
    simp only
    cases hd : (ops[j]?).bind (·.dst) with
    | none => rfl
    | some d =>
      simp only
      rw [h d (by
        unfold tmpsOf
        rw [List.mem_append]
        refine .inr ?_
        rw [hg]
        simp only [hd, Option.toList, List.mem_singleton])]
theorem evMake_next {md : Bool} {op : Op} {ρ : Operand → AV} {h : Nat → Option Blk} {next : Nat} {orc : List Orc} {r : Res} (hv : fvO orc = false) (hr : evMake P md op ρ h next orc = some r) : next < r.next := by
  rw [evMake_0 hv] at hr
  cases op with
  | alloc t =>
    obtain ⟨z, hz, rfl⟩ := Option.map_eq_some_iff.1 hr
    exact Nat.lt_succ_self _
  | box t x =>
    obtain ⟨z, hz, rfl⟩ := Option.map_eq_some_iff.1 hr
    cases hfz : fzO orc && z.all baseA with
    | false => exact Nat.lt_succ_self _
    | true => exact Nat.lt_succ_self _
  | makeSlice t x y =>
    unfold evMake0 at hr
    simp only at hr
    split at hr
    · split at hr
      · obtain ⟨i, hi, hr⟩ := Option.bind_eq_some_iff.1 hr
        obtain ⟨z, hz, hr⟩ := Option.bind_eq_some_iff.1 hr
        obtain ⟨hb, hr⟩ := bif_some hr
        obtain ⟨p, hp, rfl⟩ := Option.map_eq_some_iff.1 hr
        exact Nat.lt_succ_self _
      · cases hr
    · cases hr
  | buildSlice t len parts =>
    unfold evMake0 at hr
    simp only at hr
    split at hr
    · obtain ⟨s, hs, hr⟩ := Option.bind_eq_some_iff.1 hr
      obtain ⟨hb, hr⟩ := bif_some hr
      obtain ⟨z, hz, hr⟩ := Option.bind_eq_some_iff.1 hr
      obtain ⟨cs, hcs, rfl⟩ := Option.map_eq_some_iff.1 hr
      exact Nat.lt_succ_self _
    · cases hr
  | _ => cases hr
structure InvD (T : Nat → Tch) (ops : Array Oper) (st : St) (D : Nat → DS) (nt : Nat) (cx0 : Cx) (listed : Array Bool) (a : Act) (cx : Cx) (e : Nat → AV) (N : Nat) : Prop where
  cl : Closed ops listed
  stab : Stab cx0 cx
  s : SRep cx ⟨e, cx.H, N⟩ a nt
  env : EnvI ops st D listed e
  hp : HpI T ops st D listed cx.H
  bd : ∀ k, k < ops.size → Up listed k → (T k).all = true → Bnd (D (k + 1))
/-- where all that wrote a block ahead of i has come up, and nobody behind it, it is as the text has it -/
theorem hp_at (hD : SeqD P T md call nt ops st D) {listed : Array Bool} {H : Nat → Option Blk} (hp : HpI T ops st D listed H) {i id : Nat} (hi : i ≤ ops.size) (h1 : ∀ k, k < i → wrsT (T k) id → Up listed k) (h2 : ∀ k, i ≤ k → k < ops.size → wrsT (T k) id → ¬ Up listed k) : H id = (D i).st.heap id := by
  rcases hp id with ⟨k, k1, k2, k3, k4, k5⟩ | ⟨k1, k2⟩
  · have hk : k < i := by
      rcases Nat.lt_or_ge k i with h | h
      · exact h
      · exact absurd k2 (h2 k h k1 k3)
    rw [k5]
    exact (hD.keepId (a := k + 1) (id := id) i (by omega) hi fun j j1 j2 hw => by
      have := k4 j (by omega) (h1 j j2 hw) hw
      omega).symm
  · rw [k2, ← hD.st0]
    exact (hD.keepId (a := 0) (id := id) i (by omega) hi fun j j1 j2 hw => k1 j (by omega) (h1 j j2 hw) hw).symm
/-- one more came up, that wrote nothing -/
theorem hp_quiet {listed : Array Bool} {H : Nat → Option Blk} {i : Nat} (hi : i < listed.size) (hq : ∀ id, ¬ wrsT (T i) id) (hp : HpI T ops st D listed H) : HpI T ops st D (listed.setIfInBounds i true) H := by
  intro id
  have hu : ∀ j, Up (listed.setIfInBounds i true) j → wrsT (T j) id → Up listed j := fun j hj hw => by
    rcases (up_set hi).1 hj with rfl | hj
    · exact absurd hw (hq id)
    · exact hj
  rcases hp id with ⟨k, k1, k2, k3, k4, k5⟩ | ⟨k1, k2⟩
  · exact .inl ⟨k, k1, (up_set hi).2 (.inr k2), k3, fun j j1 j2 j3 => k4 j j1 (hu j j2 j3) j3, k5⟩
  · exact .inr ⟨fun j j1 j2 j3 => k1 j j1 (hu j j2 j3) j3, k2⟩
/-- one more came up, and wrote some -/
theorem hp_wrote {listed : Array Bool} {H H' : Nat → Option Blk} {i : Nat} (hi : i < listed.size) (hio : i < ops.size) (hlast : ∀ id, wrsT (T i) id → ∀ j, j < ops.size → Up listed j → wrsT (T j) id → j ≤ i) (h1 : ∀ id, wrsT (T i) id → H' id = (D (i + 1)).st.heap id) (h2 : ∀ id, ¬ wrsT (T i) id → H' id = H id) (hp : HpI T ops st D listed H) : HpI T ops st D (listed.setIfInBounds i true) H' := by
  intro id
  by_cases hw : wrsT (T i) id
  · refine .inl ⟨i, hio, (up_set hi).2 (.inl rfl), hw, fun j j1 j2 j3 => ?_, h1 id hw⟩
    rcases (up_set hi).1 j2 with rfl | hu
    · exact Nat.le_refl _
    · exact hlast id hw j j1 hu j3
  · have hu : ∀ j, Up (listed.setIfInBounds i true) j → wrsT (T j) id → Up listed j := fun j hj hw' => by
      rcases (up_set hi).1 hj with rfl | hj
      · exact absurd hw' hw
      · exact hj
    rw [h2 id hw]
    rcases hp id with ⟨k, k1, k2, k3, k4, k5⟩ | ⟨k1, k2⟩
    · exact .inl ⟨k, k1, (up_set hi).2 (.inr k2), k3, fun j j1 j2 j3 => k4 j j1 (hu j j2 j3) j3, k5⟩
    · exact .inr ⟨fun j j1 j2 j3 => k1 j j1 (hu j j2 j3) j3, k2⟩
theorem InvD.step {cx0 cx : Cx} {listed : Array Bool} {a : Act} {e : Nat → AV} {N : Nat} (hI : InvD T ops st D nt cx0 listed a cx e N) (hD : SeqD P T md call nt ops st D) (hcall : CallOk P call) (hs : statOk ops (befs ops) = true) {i : Nat} (hr : i ∈ Region.ready .any ops listed)
    {K : Act → World → Prop} {Q : Exit → Act → World → Prop} (hK : ∀ cx' a' e' N', InvD T ops st D nt cx0 (listed.setIfInBounds i true) a' cx' e' N' → K a' cx'.w) : wpOp P ops Q i K a cx.w := by
  obtain ⟨hnu, hi, hc'⟩ := hI.cl.ready hr
  have hi' : i < listed.size := by rw [hI.cl.sz]; exact hi
  obtain ⟨o, g, ho, hd, hg, h1, hbef⟩ := hD.at_ hi
  have hag : ∀ t ∈ tmpsOf o ops, (D i).st.env t = e t := fun t ht => (hI.env.agree hD hs hI.cl hr ho ht).symm
  have hev := agree_eval hag
  rw [agree_guard hag] at hg
  -- who conflicts with i, and stands ahead of it, is up; who stands behind is not
  have upB : ∀ k, k < i → cfl (T i) (T k) = true → Up listed k := fun k hk hc => by
    have := hc'.bef hs i ((up_set hi').2 (.inl rfl)) k (hbef k hk hc)
    rcases (up_set hi').1 this with rfl | hu
    · omega
    · exact hu
  have upA : ∀ k, i < k → k < ops.size → cfl (T k) (T i) = true → ¬ Up listed k := fun k hk hkn hc hu => by
    obtain ⟨_, _, _, _, _, _, hb⟩ := hD.at_ hkn
    exact hnu (hI.cl.bef hs k hu i (hb i hk hc))
  have seen : ∀ id, tchT (T i) id → cx.H id = (D i).st.heap id := fun id ht => hp_at hD hI.hp (Nat.le_of_lt hi) (fun k hk hw => upB k hk (cfl_wt hw ht).2) (fun k hk hkn hw => by
    by_cases hki : k = i
    · subst hki; exact hnu
    · exact upA k (by omega) hkn (cfl_wt hw ht).1)
  have hlast : ∀ id, wrsT (T i) id → ∀ j, j < ops.size → Up listed j → wrsT (T j) id → j ≤ i := fun id hw j hj hu hwj => by
    rcases Nat.lt_or_ge i j with h | h
    · exact absurd hu (upA j h hj (cfl_wt hwj (hw.imp_right .inl)).1)
    · exact h
  have bdI : (T i).any = true → Bnd (D i) := fun hany => by
    have hdec : DecidablePred fun k => (T k).all = true := fun k => inferInstance
    rcases lastW (fun k => (T k).all = true) i with ⟨k, k1, k2, k3⟩ | h0
    · have hu : Up listed k := upB k k1 (by unfold cfl; rw [k2, hany]; simp)
      refine hD.bnd (a := k + 1) (hI.bd k (by omega) hu k2) i (by omega) (by omega) fun j j1 j2 => ?_
      cases hx : (T j).all with
      | false => rfl
      | true => have := k3 j j2 hx; omega
    · refine hD.bnd (a := 0) (fun id hid => ?_) i (by omega) (by omega) fun j _ j2 => ?_
      · rw [hD.st0] at hid ⊢; exact hD.lt id hid
      · cases hx : (T j).all with
        | false => rfl
        | true => exact absurd hx (h0 j j2)
  unfold wpOp
  rw [ho]
  simp only
  rcases h1 with ⟨hgf, hv, _, _, hT, hp⟩ | ⟨hgt, r, hrr, hpg, hpr, hv, e1, e2, hT⟩
  · have hw := guardA_sound hg hp hI.s
    rw [hgf] at hw
    rw [hw]
    simp only [Bool.false_eq_true, if_false]
    refine hK cx _ _ N ⟨hc', hI.stab, hI.s.put (Stab.refl cx) hI.s.c rfl hI.s.lt hd (.pure (.val _)), hI.env.put hs ho hi' hv, hp_quiet hi' (fun id hw => by rw [hT] at hw; rcases hw with h | h <;> cases h) hI.hp, fun k k1 k2 k3 => ?_⟩
    rcases (up_set hi').1 k2 with rfl | hu
    · rw [hT] at k3; cases k3
    · exact hI.bd k k1 hu k3
  · have hw := guardA_sound hg hpg hI.s
    rw [hgt] at hw
    rw [hw]
    simp only [if_true]
    refine .inl ?_
    cases hall : (T i).all with
    | true =>
      -- all of memory
      have hH : cx.H = (D i).st.heap := funext fun id => seen id (.inl hall)
      have hbnd : Bnd (D i) := bdI (by unfold Tch.any; rw [hall]; rfl)
      have hrr' : evD P md call o.op (evalA e) (D i).st.heap (D i).st.next g.2.1 = some r := evD_congr hev ▸ hrr
      have hs0 : SRep cx ⟨e, (D i).st.heap, (D i).st.next⟩ a nt := ⟨hH, hI.s.c, hI.s.env, hbnd, hI.s.sz, hI.s.df⟩
      have fin : ∀ cx' a', SRep cx' ⟨putE e o.dst r.v, r.heap, r.next⟩ a' nt → Stab cx cx' → K a' cx'.w := fun cx' a' hs' hst' => by
        have hHe : cx'.H = r.heap := hs'.H
        refine hK cx' a' _ r.next ⟨hc', hI.stab.trans hst', by rw [hHe]; exact hs', hI.env.put hs ho hi' hv, hp_wrote hi' hi hlast (fun id _ => by rw [hHe, e1]) (fun id hn => absurd (.inl hall) hn) hI.hp, fun k k1 k2 k3 => ?_⟩
        rcases (up_set hi').1 k2 with rfl | hu
        · intro id hid
          rw [e2]
          rw [e1] at hid
          exact hs'.lt id hid
        · exact hI.bd k k1 hu k3
      cases hcl : isCl o.op (evalA e) g.2.1 with
      | true =>
        refine callC_wp hcl (by rw [hH]; exact hrr') hpr hI.s.c hI.s.env (fun id h5 h6 => ?_) fun cx' z m1 m2 m3 m4 m5 => fin cx' _ (hI.s.put m3 m2 m1 (m5.lt fun id hid => hbnd id (by rw [← hH]; exact hid)) hd m4) m3
        cases hx : cx.H id with
        | none => rfl
        | some b => have := hbnd id (by rw [← hH, hx]; rfl); omega
      | false =>
        cases hcp : isCp o.op (evalA e) g.2.1 with
        | true =>
          refine callP_wp hcp (by rw [hH]; exact hrr') hpr hI.s.c hI.s.env fun cx' z m1 m2 m3 m4 m5 m6 => fin cx' _ (hI.s.put m3 m2 m1 (fun id hid => ?_) hd m4) m3
          rw [m6]
          exact hbnd id (by rw [← hH, ← m5]; exact hid)
        | false =>
          unfold evD at hrr'
          rw [hcl, hcp] at hrr'
          exact evOp_sound hcall hrr' hpr hs0 hd fin
    | false =>
      have hall' := hall
      rw [hT] at hall'
      have L := evD_loc hrr hall'
      rw [← hT] at L
      have wr_iff : ∀ id, wrsT (T i) id ↔ id ∈ (T i).wr := fun id => ⟨fun h => h.resolve_left (by rw [hall]; simp), .inr⟩
      have notall : ∀ k, k < ops.size → Up (listed.setIfInBounds i true) k → (T k).all = true → Bnd (D (k + 1)) := fun k k1 k2 k3 => by
        rcases (up_set hi').1 k2 with rfl | hu
        · rw [hall] at k3; cases k3
        · exact hI.bd k k1 hu k3
      have done : ∀ cx' a' r' N', evD P md call o.op (evalA e) cx.H N' g.2.1 = some r' → r'.v = r.v → (∀ id ∈ (T i).wr, r'.heap id = r.heap id) → (∀ id, id ∉ (T i).wr → r'.heap id = cx.H id) → cx'.H = r'.heap → ∀ M, SRep cx' ⟨putE e o.dst r.v, cx'.H, M⟩ a' nt → Stab cx cx' → K a' cx'.w := fun cx' a' r' N' _ _ q1 q2 hHe M hs' hst' => by
        refine hK cx' a' _ M ⟨hc', hI.stab.trans hst', hs', hI.env.put hs ho hi' hv, hp_wrote hi' hi hlast (fun id hw => by rw [hHe, q1 id ((wr_iff id).1 hw), e1]) (fun id hn => by rw [hHe, q2 id fun hm => hn ((wr_iff id).2 hm)]) hI.hp, notall⟩
      have rdH : ∀ id ∈ (T i).rd, cx.H id = (D i).st.heap id := fun id hid => seen id (.inr (.inr hid))
      have wrH : ∀ id ∈ (T i).wr, cx.H id = (D i).st.heap id := fun id hid => seen id (.inr (.inl hid))
      cases hnw : (T i).nw with
      | false =>
        -- it takes no numbers
        obtain ⟨r', k1, k2, k3, k4, _, k6, k7, k8⟩ := L.loc cx.H N (fun h => by rw [hnw] at h; cases h) rdH wrH
        rw [evD_congr hev] at k1
        have hpr' : ∀ p ∈ r'.cs, p := by rw [k4]; exact hpr
        have hlt' : ∀ id, (r'.heap id).isSome = true → id < N := fun id hid => by
          by_cases hm : id ∈ (T i).wr
          · rcases L.wrs id hm with h2 | h2
            · exact hI.s.lt id (by show (cx.H id).isSome = true; rw [wrH id hm]; exact h2)
            · have := L.nonew hnw
              omega
          · rw [k8 id hm] at hid
            exact hI.s.lt id hid
        have finz : ∀ cx' z, cx'.H = r'.heap → CRep cx' → Stab cx cx' → Rep cx' r'.v z → K (a.put o.dst z) cx'.w := fun cx' z m1 m2 m3 m4 => by
          have hs' := hI.s.put (next := N) m3 m2 m1 hlt' hd m4
          rw [k2, ← m1] at hs'
          exact done cx' _ r' N k1 k2 k7 k8 m1 N hs' m3
        cases hcl : isCl o.op (evalA e) g.2.1 with
        | true =>
          exfalso
          have hcls := isCl_cls (P := P) (op := o.op) (ρ := evalA e) (orc := g.2.1) hcl
          rw [hT] at hnw hall
          unfold tchOf at hnw hall
          rw [hcls] at hnw hall
          rw [isCl_congr hev, hcl] at hnw hall
          simp only [cond_true] at hnw hall
          cases hf : frzd (D i).st.heap (rdD o.op (evalA (D i).st.env)) with
          | true => rw [hf] at hnw; cases hnw
          | false => rw [hf] at hall; cases hall
        | false =>
          cases hcp : isCp o.op (evalA e) g.2.1 with
          | true => exact callP_wp hcp k1 hpr' hI.s.c hI.s.env fun cx' z m1 m2 m3 m4 _ _ => finz cx' z m1 m2 m3 m4
          | false =>
            have hrl := k1
            unfold evD at hrl
            rw [hcl, hcp] at hrl
            simp only [cond_false] at hrl
            by_cases hcc : clsOf P o.op = .call
            · exfalso
              rw [hT] at hall
              unfold tchOf at hall
              rw [hcc, isCl_congr hev, hcl, isCp_congr hev, hcp] at hall
              cases hall
            · exact evOp_base hrl hcc hpr' rfl hI.s.c hI.s.env (by
                cases hx : cx.H N with
                | none => rfl
                | some b => exact absurd (hI.s.lt N (by show (cx.H N).isSome = true; rw [hx]; rfl)) (Nat.lt_irrefl _)) fun cx' z m1 m2 m3 m4 _ => finz cx' z m1 m2 m3 m4
      | true =>
        -- it takes numbers, those that the text has for it
        have hany : (T i).any = true := by unfold Tch.any; rw [hnw]; simp
        have hbnd := bdI hany
        obtain ⟨r', k1, k2, k3, k4, k5, _, k7, k8⟩ := L.loc cx.H (D i).st.next (fun _ => rfl) rdH wrH
        rw [evD_congr hev] at k1
        have k5' := k5 hnw
        have hpr' : ∀ p ∈ r'.cs, p := by rw [k4]; exact hpr
        have hfree : ∀ id, (D i).st.next ≤ id → id < r.next → cx.H id = none := fun id h5 h6 => by
          rw [wrH id (L.new id h5 h6)]
          cases hx : (D i).st.heap id with
          | none => rfl
          | some b => have := hbnd id (by rw [hx]; rfl); omega
        have hlt' : ∀ id, (r'.heap id).isSome = true → id < max N r.next := fun id hid => by
          by_cases hm : id ∈ (T i).wr
          · rcases L.wrs id hm with h2 | h2
            · have : id < N := hI.s.lt id (by show (cx.H id).isSome = true; rw [wrH id hm]; exact h2)
              omega
            · omega
          · rw [k8 id hm] at hid
            have : id < N := hI.s.lt id hid
            omega
        have finz : ∀ cx' z, cx'.H = r'.heap → CRep cx' → Stab cx cx' → Rep cx' r'.v z → K (a.put o.dst z) cx'.w := fun cx' z m1 m2 m3 m4 => by
          have hs' := hI.s.put (next := max N r.next) m3 m2 m1 hlt' hd m4
          rw [k2, ← m1] at hs'
          exact done cx' _ r' _ k1 k2 k7 k8 m1 _ hs' m3
        cases hcl : isCl o.op (evalA e) g.2.1 with
        | true => exact callC_wp hcl k1 hpr' hI.s.c hI.s.env (fun id h5 h6 => hfree id h5 (by rw [k5'] at h6; exact h6)) fun cx' z m1 m2 m3 m4 _ => finz cx' z m1 m2 m3 m4
        | false =>
          cases hcp : isCp o.op (evalA e) g.2.1 with
          | true => exact callP_wp hcp k1 hpr' hI.s.c hI.s.env fun cx' z m1 m2 m3 m4 _ _ => finz cx' z m1 m2 m3 m4
          | false =>
            have hrl := k1
            unfold evD at hrl
            rw [hcl, hcp] at hrl
            simp only [cond_false] at hrl
            by_cases hcc : clsOf P o.op = .call
            · exfalso
              rw [hT] at hall
              unfold tchOf at hall
              rw [hcc, isCl_congr hev, hcl, isCp_congr hev, hcp] at hall
              cases hall
            · refine evOp_base hrl hcc hpr' rfl hI.s.c hI.s.env ?_ fun cx' z m1 m2 m3 m4 _ => finz cx' z m1 m2 m3 m4
              cases hx : cx.H (D i).st.next with
              | none => rfl
              | some b =>
                exfalso
                have hlt : (D i).st.next < r.next := by
                  cases hcz : clsOf P o.op with
                  | pur => rw [hT] at hnw; unfold tchOf at hnw; rw [hcz] at hnw; cases hnw
                  | read =>
                    rw [hT] at hnw; unfold tchOf at hnw; rw [hcz] at hnw
                    simp only at hnw
                    cases ha : adrOnly o.op (evalA (D i).st.env) with
                    | true => rw [ha] at hnw; cases hnw
                    | false => rw [ha] at hnw; cases hnw
                  | call => exact absurd hcz hcc
                  | make =>
                    have hfv : fvO g.2.1 = false := by
                      rw [hT] at hnw; unfold tchOf at hnw; rw [hcz] at hnw
                      simp only at hnw
                      cases hx2 : fvO g.2.1 with
                      | false => rfl
                      | true => rw [hx2] at hnw; cases hnw
                    have h9 := hrr
                    unfold evD evOp at h9
                    rw [hcz] at h9
                    exact evMake_next hfv h9
                  | write =>
                    have hm : (D i).st.next ∈ (T i).wr := by
                      rw [hT] at hnw hall ⊢
                      exact tch_write hcz hnw hall
                    rcases L.wrs _ hm with h2 | h2
                    · have := hbnd _ h2; omega
                    · exact h2.2
                rw [hfree _ (Nat.le_refl _) hlt] at hx
                cases hx
end
end
end Go.Proofs.Ytjdiabjmphdhiaa.Rx
namespace Go.Proofs.Ytjdiabjmphdhiaa.Rx
section
open Go.RowKit
section
variable {P : Program}
def Cx.drew (cx : Cx) : Cx := ⟨{ cx.w with drawn := cx.w.drawn + 1 }, cx.R, cx.φ, cx.H, cx.B⟩
theorem drew_stab (cx : Cx) : Stab cx cx.drew :=
  ⟨⟨rfl, fun _ h => h, fun _ h => .inl h, rfl, rfl, rfl, Nat.le_refl _, fun _ _ _ => rfl⟩, fun id b h => ⟨b, h, fun _ => ⟨rfl, sameShape.rfl' b⟩, fun _ => rfl⟩, fun id b b' h h' => by
    have h2 : cx.H id = some b' := h'
    rw [h] at h2; cases h2; exact Nat.le_refl _⟩
theorem drew_crep {cx : Cx} (hc : CRep cx) : CRep cx.drew := by
  refine ⟨fun id b hb => ?_, hc.inj, hc.rlt, hc.blt⟩
  have h := hc.hb id b hb
  unfold HB at h ⊢
  split
  · rename_i cs hcs
    rw [hcs] at h
    obtain ⟨g, cur, h1, h2, h3, h4, h5⟩ := h
    refine ⟨g, cur, h1, h2, h3, fun j a ha => ?_, h5⟩
    obtain ⟨u, u1, u2, u3⟩ := h4 j a ha
    exact ⟨u, u1, u2, u3.stab hc (drew_stab cx)⟩
  · rename_i m n f hcs
    rw [hcs] at h
    rcases h with h | ⟨g, cap, cur, h1, h2, h3, h4, h5, h6, h7⟩
    · exact .inl h
    · refine .inr ⟨g, cap, cur, h1, h2, h3, h4, h5, fun i hi j hj => ?_, h7⟩
      obtain ⟨u, u1, u2, u3⟩ := h6 i hi j hj
      exact ⟨u, u1, u2, u3.mono (fun _ h => h) fun _ _ => rfl⟩
theorem drew_srep {cx : Cx} {st : St} {a : Act} {nt : Nat} (hs : SRep cx st a nt) : SRep cx.drew st a nt :=
  ⟨hs.H, drew_crep hs.c, fun t => (hs.env t).stab hs.c (drew_stab cx), hs.lt, hs.sz, hs.df⟩
theorem InvD.any {T : Nat → Tch} {md : Bool} {call : CallF} {nt : Nat} {ops : Array Oper} {st : St} {D : Nat → DS} {cx0 : Cx} (hD : SeqD P T md call nt ops st D) (hcall : CallOk P call) (hs : statOk ops (befs ops) = true)
    {Q : Exit → Act → World → Prop} (hQ : ∀ cx' a', SRep cx' (D ops.size).st a' nt → Stab cx0 cx' → Q .normal a' cx'.w) :
    ∀ (fuel : Nat) {listed : Array Bool} {a : Act} {cx : Cx} {e : Nat → AV} {N : Nat}, InvD T ops st D nt cx0 listed a cx e N → (List.range ops.size).countP (fun i => !(listed.getD i false)) ≤ fuel → wpAny P .any ops Q fuel listed a cx.w := by
  have fin : ∀ {listed : Array Bool} {a : Act} {cx : Cx} {e : Nat → AV} {N : Nat}, InvD T ops st D nt cx0 listed a cx e N → Region.ready .any ops listed = [] → Q .normal a cx.w := by
    intro listed a cx e N hI hr
    have hall := hI.cl.done hs hr
    have hH : cx.H = (D ops.size).st.heap := funext fun id => hp_at hD hI.hp (Nat.le_refl _) (fun k hk _ => hall k hk) (fun k h1 h2 _ => by omega)
    have hlt : Bnd (D ops.size) := by
      have hdec : DecidablePred fun k => (T k).all = true := fun k => inferInstance
      rcases lastW (fun k => (T k).all = true) ops.size with ⟨k, k1, k2, k3⟩ | h0
      · refine hD.bnd (a := k + 1) (hI.bd k k1 (hall k k1) k2) ops.size (by omega) (Nat.le_refl _) fun j j1 j2 => ?_
        cases hx : (T j).all with
        | false => rfl
        | true => have := k3 j j2 hx; omega
      · refine hD.bnd (a := 0) (fun id hid => ?_) ops.size (by omega) (Nat.le_refl _) fun j _ j2 => ?_
        · rw [hD.st0] at hid ⊢; exact hD.lt id hid
        · cases hx : (T j).all with
          | false => rfl
          | true => exact absurd hx (h0 j j2)
    have he : e = (D ops.size).st.env := by
      funext t
      by_cases hex : ∃ (k : Nat) (p : Oper), ops[k]? = some p ∧ p.dst = some t
      · obtain ⟨k, p, hp, hd⟩ := hex
        have hk : k < ops.size := (Array.getElem?_eq_some_iff.1 hp).1
        rw [hI.env.e1 k p t hp hd (hall k hk)]
        exact (hD.env_keep (t := t) (a := k + 1) ops.size (by omega) (Nat.le_refl _) fun j o' j1 j2 j3 j4 => by
          have := (statOk_dst hs j3 hp hd).1
          rcases this with rfl | h5
          · omega
          · exact h5 j4).symm
      · rw [hI.env.e2 t fun k p hp hd => absurd ⟨k, p, hp, hd⟩ hex]
        have := hD.env_keep (t := t) (a := 0) ops.size (by omega) (Nat.le_refl _) fun j o' j1 j2 j3 j4 => hex ⟨j, o', j3, j4⟩
        rw [this, hD.st0]
    refine hQ cx a ⟨hH, hI.s.c, ?_, hlt, hI.s.sz, hI.s.df⟩ hI.stab
    rw [← he]
    exact hI.s.env
  intro fuel
  induction fuel with
  | zero =>
    intro listed a cx e N hI hcnt
    have hr : Region.ready .any ops listed = [] := by
      rw [List.eq_nil_iff_forall_not_mem]
      intro i hi
      obtain ⟨hnu, hlt, _⟩ := hI.cl.ready hi
      have := List.countP_eq_zero.1 (Nat.le_zero.1 hcnt) i (List.mem_range.2 hlt)
      unfold Up at hnu
      simp at this
      exact hnu (by simpa using this)
    exact ⟨hr, fin hI hr⟩
  | succ fuel ih =>
    intro listed a cx e N hI hcnt
    refine ⟨fin hI, fun i hi => ?_⟩
    refine hI.step hD hcall hs hi fun cx' a' e' N' hI' => ih hI' ?_
    obtain ⟨hnu, hlt, _⟩ := hI.cl.ready hi
    have hi' : i < listed.size := by rw [hI.cl.sz]; exact hlt
    have hx := @up_set listed i
    have := count_lt (p := fun i => !(listed.getD i false)) (p' := fun k => !((listed.setIfInBounds i true).getD k false)) (List.mem_range.2 hlt) (by
        unfold Up at hnu
        simp only [Bool.not_eq_true'] at hnu ⊢
        cases hb : listed.getD i false with
        | false => rfl
        | true => exact absurd hb hnu) (by
        have := (hx (k := i) hi').2 (.inl rfl)
        unfold Up at this
        simp only [this, Bool.not_true]) (fun k hk => by
        simp only [Bool.not_eq_true'] at hk ⊢
        cases hb : listed.getD k false with
        | false => rfl
        | true =>
          have := (hx (k := k) hi').2 (.inr hb)
          unfold Up at this
          rw [this] at hk; cases hk)
    omega
theorem drawA_ok (md : Bool) : DrawOk P (drawA P md) := by
  intro call hcall nt ops st orc q cx a id h hp hs Q hQ
  unfold drawA at h
  obtain ⟨h1, h2⟩ := bif_some h
  rw [Bool.and_eq_true] at h1
  obtain ⟨q', hq, rfl⟩ := Option.map_eq_some_iff.1 h2
  obtain ⟨s', ps⟩ := q'
  obtain ⟨D, d0, d1, d2⟩ := runD_seq ops.size 0 hq hp
  rw [Nat.zero_add] at d1
  have htr : ∀ j, j < ops.size → ∃ t, (D (j + 1)).tr = (j, t) :: (D j).tr := fun j hj => by
    obtain ⟨q, hq, _⟩ := d2 j (Nat.zero_le _) (by omega)
    obtain ⟨o, g, _, _, _, h3⟩ := stepD_inv hq
    rcases h3 with ⟨_, _, _, _, e, _⟩ | ⟨_, r, _, _, _, _, _, e, _⟩
    · exact ⟨_, e⟩
    · exact ⟨_, e⟩
  have hT : ∃ T : Nat → Tch, ∀ j, j < ops.size → (D (j + 1)).tr = (j, T j) :: (D j).tr :=
    ⟨fun j => ((D (j + 1)).tr.head?.map (·.2)).getD tch0, fun j hj => by
      obtain ⟨t, ht⟩ := htr j hj
      have e : ((D (j + 1)).tr.head?.map (·.2)).getD tch0 = t := by rw [ht]; rfl
      show (D (j + 1)).tr = (j, ((D (j + 1)).tr.head?.map (·.2)).getD tch0) :: (D j).tr
      rw [e]; exact ht⟩
  obtain ⟨T, hT⟩ := hT
  have hD : SeqD P T md call nt ops st D := ⟨by rw [d0], by rw [d0], fun j hj => d2 j (Nat.zero_le _) (by omega), hT, hs.lt⟩
  refine wp_region_any h1.1 ?_
  have hs' := drew_srep hs
  have hno : ∀ k, ¬ Up (Array.replicate ops.size false) k := fun k hk => by
    unfold Up at hk
    rw [Array.getD_eq_getD_getElem?, Array.getElem?_replicate] at hk
    split at hk <;> cases hk
  refine InvD.any hD hcall h1.2 (cx0 := cx.drew) (Q := Q) (fun cx' a' hs2 hst2 => ?_) ops.size (cx := cx.drew) (e := st.env) (N := st.next) ⟨⟨by simp, fun k o _ hu => absurd hu (hno k)⟩, Stab.refl _, ?_, ⟨fun k o t _ _ hu => absurd hu (hno k), fun t _ => rfl⟩, fun id => .inr ⟨fun j _ hu => absurd hu (hno j), ?_⟩, fun k _ hu => absurd hu (hno k)⟩ ?_
  · rw [d1] at hs2
    exact hQ cx' a' hs2 ((drew_stab cx).trans hst2)
  · have : cx.drew.H = st.heap := hs'.H
    rw [this]
    exact hs'
  · rw [show cx.drew.H = st.heap from hs'.H]
  · exact Nat.le_trans List.countP_le_length (by simp)
end
end
end Go.Proofs.Ytjdiabjmphdhiaa.Rx
namespace Go.Proofs.Ytjdiabjmphdhiaa.Rx
section
open Go.RowKit
/-- a thing to be shown, shut, so that nobody looks inside without need -/
structure Vc (p : Prop) : Prop where
  out : p
def allP : List Prop → Prop
  | [] => True
  | p :: l => p ∧ allP l
theorem allP_mem : ∀ {l : List Prop}, allP l → ∀ p ∈ l, p
  | [], _, p, hp => by cases hp
  | q :: l, h, p, hp => by
    rcases List.mem_cons.1 hp with rfl | hp
    · exact h.1
    · exact allP_mem h.2 p hp
def eqX : X → X → Bool
  | .nrm, .nrm => true
  | .ext i, .ext j => Nat.beq i j
  | .ret, .ret => true
  | _, _ => false
theorem eqX_eq {x y : X} (h : eqX x y = true) : x = y := by
  cases x <;> cases y <;> first | rfl | cases h | (unfold eqX at h; rw [Nat.eq_of_beq_eq_true h])
def cSub : Code → List Nat → Code
  | c, [] => c
  | .seq a b, i :: p => bif Nat.beq i 0 then cSub a p else cSub b p
  | .cond _ a b, i :: p => bif Nat.beq i 0 then cSub a p else cSub b p
  | .block _ c, _ :: p => cSub c p
  | .loop c, _ :: p => cSub c p
  | c, _ => c
/-- the loops of a text, one behind the other, each ahead of those within it -/
def loops : Code → List Code
  | .seq a b => loops a ++ loops b
  | .cond _ a b => loops a ++ loops b
  | .block _ c => loops c
  | .loop c => c :: loops c
  | _ => []
section
variable (P : Program)
def codeOf (f : FuncId) : Code := ((P.funcs[f]?).bind (·.body)).getD .skip
def subC (f : FuncId) (p : List Nat) : Code := cSub (codeOf P f) p
def lpC (f : FuncId) (k : Nat) : Code := (loops (codeOf P f)).getD k .skip
def ntOf (f : FuncId) : Nat := ((P.funcs[f]?).map (·.ntmps)).getD 0
/-- what one must show for a function to be its contract -/
def vcFn (md : Bool) (f : FuncId) (args : List AV) (orc : List Orc) (ρ : List (Nat × Nat)) (res : AV) (H : List Blk) : Prop :=
  match evFn P (drawA P md) md 100 true f args (fun _ => none) 0 orc with
  | some r => match leS ρ ⟨fun _ => r.v, r.heap, r.next⟩ ⟨[(0, res)], idxH H, H.length⟩ with
    | some ps => allP (r.cs ++ ps)
    | none => False
  | none => False
/-- what one must show for a part of a text to lead from a state to another -/
def vcC (md : Bool) (nt : Nat) (c : Code) (I : Sm) (orc : List Orc) (x : X) (r : List (Nat × Nat)) (J : Sm) : Prop :=
  match evCode P (drawA P md) true md (callA P (evFn P (drawA P md) md 100 false)) nt c I.st orc with
  | some q => bif eqX q.1 x then match leS r q.2.1 J with
    | some ps => allP (q.2.2.2 ++ ps)
    | none => False
    else False
  | none => False
end
section
variable {P : Program}
theorem PureC.vc {md : Bool} {f : FuncId} {args : List AV} {orc : List Orc} {ρ : List (Nat × Nat)} {res : AV} {H : List Blk} (h : Vc (vcFn P md f args orc ρ res H)) : PureC P f args res H := by
  replace h := h.out
  unfold vcFn at h
  split at h
  · rename_i r hr
    split at h
    · rename_i ps hps
      have hall := allP_mem h
      exact PureC.of (drawA_ok md) hr (fun p hp => hall p (List.mem_append.2 (.inl hp))) hps fun p hp => hall p (List.mem_append.2 (.inr hp))
    · cases h
  · cases h
theorem callA_evFn {md : Bool} (n : Nat) : CallOk P (callA P (evFn P (drawA P md) md n false)) := callA_ok fun f args h next orc r h1 h2 cx h3 h4 h5 vs h6 h7 => by
  obtain ⟨k1, k2⟩ := evFn_run (drawA_ok md) n false h1 h2 cx h3 h4 h5 vs h6 h7
  refine ⟨k1, k2.mono ?_⟩
  rintro e w' ⟨z, cx', m1, m2, m3, m4, m5, m6, m7⟩
  exact ⟨z, cx', m1, m2, m3, m4, m5.2 rfl, m6, m7⟩
theorem Ok.vc {md : Bool} {nt : Nat} {c : Code} {I J : Sm} {orc : List Orc} {x : X} {r : List (Nat × Nat)} (h : Vc (vcC P md nt c I orc x r J)) : Ok P nt c I.st x J.st := by
  replace h := h.out
  unfold vcC at h
  split at h
  · rename_i q hq
    obtain ⟨hx, h1⟩ : eqX q.1 x = true ∧ (match leS r q.2.1 J with | some ps => allP (q.2.2.2 ++ ps) | none => False) := by
      cases hb : eqX q.1 x with
      | true => rw [hb] at h; exact ⟨rfl, h⟩
      | false => rw [hb] at h; exact h.elim
    split at h1
    · rename_i ps hps
      have hall := allP_mem h1
      intro cx a hs Q hQ
      refine evCode_sound (drawA_ok md) (callA_evFn 100) c hq (fun p hp => hall p (List.mem_append.2 (.inl hp))) hs Q fun cx1 a1 hs1 ha1 => ?_
      obtain ⟨cx2, hs2, he2, hw2⟩ := hs1.le hps fun p hp => hall p (List.mem_append.2 (.inr hp))
      rw [eqX_eq hx, ← hw2]
      exact hQ cx2 a1 hs2 (ha1.1.trans he2)
    · cases h1
  · cases h
/-- a loop of m rounds, and the one that leaves -/
theorem Ok.loop {nt : Nat} {c : Code} {F : Nat → Sm} {m : Nat} {x : X} {J : Sm} (hr : ∀ k, k < m → Ok P nt c (F k).st .nrm (F (k + 1)).st) (he : Ok P nt c (F m).st x J.st) (hx : x ≠ .nrm) : Ok P nt (.loop c) (F 0).st x J.st := by
  intro cx a hs Q hQ
  have key : ∀ n k, k + n = m → ∀ cx1 a1, SRep cx1 (F k).st a1 nt → Ext cx cx1 → Code.rounds P c Q (n + 1) a1 cx1.w := by
    intro n
    induction n with
    | zero =>
      intro k hk cx1 a1 hs1 he1
      obtain rfl : k = m := by omega
      rw [rounds_succ]
      refine he cx1 a1 hs1 _ fun cx2 a2 hs2 he2 => ?_
      have := hQ cx2 a2 hs2 (he1.trans he2)
      cases x with
      | nrm => exact absurd rfl hx
      | ext id => exact this
      | ret => exact this
    | succ n ih =>
      intro k hk cx1 a1 hs1 he1
      rw [rounds_succ]
      exact hr k (by omega) cx1 a1 hs1 _ fun cx2 a2 hs2 he2 => ih (k + 1) (by omega) cx2 a2 hs2 (he1.trans he2)
  exact wp_loop_rounds (m + 1) (key m 0 (by omega) cx a hs (Ext.refl cx))
/-- a row of things, each so many cells -/
def rowL {α : Type} [Inhabited α] (g : α → Nat → AV) (l : List α) : Nat → Nat → AV := fun i j => g (l.getD i default) j
theorem rowL_left {α : Type} [Inhabited α] {g : α → Nat → AV} {l l' : List α} {i j : Nat} (h : i < l.length) : rowL g (l ++ l') i j = rowL g l i j := by
  unfold rowL
  rw [List.getD_eq_getElem?_getD, List.getD_eq_getElem?_getD, List.getElem?_append_left h]
theorem rowL_right {α : Type} [Inhabited α] {g : α → Nat → AV} {l l' : List α} {i j : Nat} (h : ¬ i < l.length) : rowL g (l ++ l') i j = rowL g l' (i - l.length) j := by
  unfold rowL
  rw [List.getD_eq_getElem?_getD, List.getD_eq_getElem?_getD, List.getElem?_append_right (Nat.not_lt.1 h)]
theorem rowL_last {α : Type} [Inhabited α] {g : α → Nat → AV} {l : List α} {x : α} {j : Nat} : rowL g (l ++ [x]) l.length j = g x j := by
  rw [rowL_right (Nat.lt_irrefl _), Nat.sub_self]
  rfl
theorem row_if {n i : Nat} {a b c : AV} (h1 : i < n → a = c) (h2 : ¬ i < n → b = c) : (bif Nat.blt i n then a else b) = c := by
  by_cases h : i < n
  · have : Nat.blt i n = true := by rw [Nat.blt_eq]; exact h
    rw [this]
    exact h1 h
  · have : Nat.blt i n = false := by
      cases hb : Nat.blt i n with
      | false => rfl
      | true => rw [Nat.blt_eq] at hb; exact absurd hb h
    rw [this]
    exact h2 h
theorem vc_of {p q : Prop} (h : p = q) (hq : q) : Vc p := ⟨h.mpr hq⟩
theorem in64 {n : Int} (h1 : -9223372036854775808 ≤ n) (h2 : n ≤ 9223372036854775807) : inK .i64 n := ⟨h1, h2⟩
theorem Ok.cut {nt : Nat} {c d : Code} {I J K : St} {x : X} (h1 : Ok P nt c I .nrm J) (h2 : Ok P nt d J x K) : Ok P nt (.seq c d) I x K := by
  intro cx a hs Q hQ
  exact wp_seq (h1 cx a hs _ fun cx1 a1 hs1 he1 => h2 cx1 a1 hs1 Q fun cx2 a2 hs2 he2 => hQ cx2 a2 hs2 (he1.trans he2))
end
end
end Go.Proofs.Ytjdiabjmphdhiaa.Rx
