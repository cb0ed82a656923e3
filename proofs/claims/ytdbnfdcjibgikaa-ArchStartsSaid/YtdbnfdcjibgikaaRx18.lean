/- What an operation looks at: its operands, and the blocks that they name. -/
import Derived.Test.YtdbnfdcjibgikaaRx17
set_option linter.unusedVariables false
set_option linter.unusedSimpArgs false
namespace Go.Proofs.Ytdbnfdcjibgikaa.Rx
open Go.RowKit
def idOf : AV → List Nat
  | .bptr id _ => [id]
  | .eptr id _ _ _ _ => [id]
  | .own id _ _ _ _ => [id]
  | _ => []
def rdIds (op : Op) (ρ : Operand → AV) : List Nat :=
  match op with
  | .load _ x => idOf (ρ x)
  | .indexAddr _ x _ => idOf (ρ x)
  | .fieldAddr _ x _ => idOf (ρ x)
  | .slice _ x _ _ _ => idOf (ρ x)
  | .buildSlice _ _ parts => parts.toList.flatMap fun p => idsF (ρ p.2)
  | .call { callee := .builtin .len, args, .. } => args.toList.flatMap fun x => idOf (ρ x)
  | .convert _ _ x => idOf (ρ x)
  | _ => []
def frzd (h : Nat → Option Blk) (ids : List Nat) : Bool := ids.all fun id => match h id with
  | some b => b.frz
  | none => true
theorem frzIds_frzd : ∀ (l : List Nat) (h : Nat → Option Blk), frzd h l = true → frzIds h l = h
  | [], h, _ => rfl
  | id :: l, h, hf => by
    unfold frzd at hf
    rw [List.all_cons, Bool.and_eq_true] at hf
    unfold frzIds
    cases hb : h id with
    | none => exact frzIds_frzd l h hf.2
    | some b =>
      simp only
      have h1 := hf.1
      rw [hb] at h1
      simp only at h1
      have e : upd h id (some { b with frz := true }) = h := by
        funext j
        by_cases hj : j = id
        · subst hj
          rw [upd_same, hb]
          cases b
          simp only at h1
          subst h1
          rfl
        · rw [upd_other _ _ _ _ hj]
      rw [e]
      exact frzIds_frzd l h hf.2
section
variable {P : Program}
theorem curG_congr {h h' : Nat → Option Blk} {id g : Nat} (e : h id = h' id) : curG h id g = curG h' id g := by unfold curG; rw [e]
theorem intO_congr {d : Int} {ρ ρ' : Operand → AV} {x : Option Operand} (h : ∀ q, x = some q → ρ q = ρ' q) : intO d ρ x = intO d ρ' x := by
  cases x with
  | none => rfl
  | some q => simp only [intO, h q rfl]
/-- it looks at its operands alone -/
theorem evOp_congr {md : Bool} {call : CallF} {op : Op} {ρ ρ' : Operand → AV} {h : Nat → Option Blk} {next : Nat} {orc : List Orc} (he : ∀ x ∈ op.operands.toList, ρ x = ρ' x) : evOp P md call op ρ h next orc = evOp P md call op ρ' h next orc := by
  cases op with
  | build t parts =>
    have e : (parts.toList.map fun p => (p.1, ρ p.2)) = (parts.toList.map fun p => (p.1, ρ' p.2)) := List.map_congr_left fun p hp => by rw [he p.2 (by simp only [Op.operands, List.mem_map]; exact ⟨p, hp, rfl⟩)]
    simp only [evOp, clsOf, evPure, e]
  | buildSlice t len parts =>
    have e0 : ∀ p ∈ parts.toList, ρ p.2 = ρ' p.2 := fun p hp => he p.2 (by simp only [Op.operands, List.mem_map]; exact ⟨p, hp, rfl⟩)
    have e : (parts.toList.map fun p => (p.1, frz h (ρ p.2))) = (parts.toList.map fun p => (p.1, frz h (ρ' p.2))) := List.map_congr_left fun p hp => by rw [e0 p hp]
    have e2 : (parts.toList.flatMap fun p => idsF (ρ p.2)) = (parts.toList.flatMap fun p => idsF (ρ' p.2)) := by
      rw [List.flatMap_def, List.flatMap_def, List.map_congr_left fun p hp => by rw [e0 p hp]]
    simp only [evOp, clsOf, evMake, e, e2]
  | slice t x lo hi mx =>
    cases mx with
    | some q => rfl
    | none =>
      have h1 : ρ x = ρ' x := he x (by simp [Op.operands])
      have h2 : ∀ d, intO d ρ lo = intO d ρ' lo := fun d => intO_congr fun q hq => he q (by simp [Op.operands, hq])
      have h3 : ∀ d, intO d ρ hi = intO d ρ' hi := fun d => intO_congr fun q hq => he q (by simp [Op.operands, hq])
      simp only [evOp, clsOf, evRead, sliceA, h1, h2, h3]
      cases lo with
      | none => rfl
      | some q =>
        have h4 := h2
        simp only [h4]
  | makeFunc fn first caps =>
    have e : caps.toList.map ρ = caps.toList.map ρ' := List.map_congr_left fun x hx => he x (by simp [Op.operands]; exact .inr (by simpa using hx))
    cases fn <;> simp only [evOp, clsOf, evPure, e]
  | call c =>
    obtain ⟨callee, args, at_⟩ := c
    have e0 : ∀ x ∈ args.toList, ρ x = ρ' x := fun x hx => he x (by simp only [Op.operands, Call.operands, Array.toList_append, List.mem_append]; exact .inr hx)
    have e : args.toList.map ρ = args.toList.map ρ' := List.map_congr_left e0
    cases callee with
    | value f =>
      have hf : ρ f = ρ' f := he f (by simp [Op.operands, Call.operands])
      simp only [evOp, clsOf, hf, e]
    | invoke r m => rfl
    | builtin b =>
      cases b with
      | len =>
        simp only [evOp, clsOf, evRead]
        congr 1
        split
        · rename_i x t hx ht
          rw [e0 x (by rw [hx]; simp)]
        · rfl
      | append =>
        simp only [evOp, clsOf, evWrite]
        split
        · rename_i x y t t' hx ht
          rw [e0 x (by rw [hx]; simp), e0 y (by rw [hx]; simp)]
        · rfl
      | min => simp only [evOp, clsOf, evPure, e]
      | max => simp only [evOp, clsOf, evPure, e]
      | _ => rfl
  | makeMap t r => rfl
  | select cs b => rfl
  | convert src dst x =>
    have e : ρ x = ρ' x := he x (by simp [Op.operands])
    simp only [evOp, evPure, evRead, e, clsOf, evMake, evWrite]
  | _ => simp_all [Op.operands, evOp, clsOf, evPure, evRead, evMake, evWrite]
theorem idsHead {id : Nat} {l : List Nat} {h h' : Nat → Option Blk} (e : ∀ i ∈ id :: l, h i = h' i) : h id = h' id := e id (by simp)
theorem loadA_local {md : Bool} {t : TypeId} {x : AV} {h h' : Nat → Option Blk} (e : ∀ i ∈ idOf x, h i = h' i) : loadA P md t x h = loadA P md t x h' := by
  cases x with
  | bptr id off => simp only [loadA, idsHead e]
  | eptr id g m i j => simp only [loadA, idsHead e]
  | _ => rfl
theorem lenA_local {t : TypeId} {x : AV} {h h' : Nat → Option Blk} (e : ∀ i ∈ idOf x, h i = h' i) : lenA P t x h = lenA P t x h' := by
  cases x with
  | own id g m off len => simp only [lenA, curG_congr (idsHead e)]
  | _ => rfl
theorem indexAddrA0_local {md : Bool} {t : TypeId} {x q : AV} {h h' : Nat → Option Blk} {orc : List Orc} (e : ∀ i ∈ idOf x, h i = h' i) : indexAddrA0 P md t x q h orc = indexAddrA0 P md t x q h' orc := by
  cases x with
  | own id g m off len => simp only [indexAddrA0, curG_congr (idsHead e)]
  | _ => rfl
theorem indexAddrA_local {md : Bool} {t : TypeId} {x q : AV} {h h' : Nat → Option Blk} {orc : List Orc} (e : ∀ i ∈ idOf x, h i = h' i) : indexAddrA P md t x q h orc = indexAddrA P md t x q h' orc := by
  unfold indexAddrA
  split
  · split
    · rw [indexAddrA0_local e]
    · rfl
  · rw [indexAddrA0_local e]
theorem fieldAddrA_local {t : TypeId} {x : AV} {k : Nat} {h h' : Nat → Option Blk} (e : ∀ i ∈ idOf x, h i = h' i) : fieldAddrA P t x k h = fieldAddrA P t x k h' := by
  cases x with
  | eptr id g m i j => simp only [fieldAddrA, curG_congr (idsHead e)]
  | _ => rfl
theorem sliceA_local {md : Bool} {t : TypeId} {x : AV} {ρ : Operand → AV} {lo hi : Option Operand} {h h' : Nat → Option Blk} {orc : List Orc} (e : ∀ i ∈ idOf x, h i = h' i) : sliceA P md t x ρ lo hi h orc = sliceA P md t x ρ lo hi h' orc := by
  cases x with
  | own id g m off len => simp only [sliceA, curG_congr (idsHead e)]
  | _ => rfl
theorem srcA_local {x : AV} {m : Nat} {h h' : Nat → Option Blk} (e : ∀ i ∈ idOf x, h i = h' i) : srcA x m h = srcA x m h' := by
  cases x with
  | own id g m off len => simp only [srcA, idsHead e]
  | _ => rfl
theorem evRead_local {md : Bool} {op : Op} {ρ : Operand → AV} {h h' : Nat → Option Blk} {orc : List Orc} (e : ∀ id ∈ rdIds op ρ, h id = h' id) : evRead P md op ρ h orc = evRead P md op ρ h' orc := by
  cases op with
  | load t x => simp only [evRead, loadA_local (h := h) (h' := h') e]
  | indexAddr t x q => simp only [evRead, indexAddrA_local (h := h) (h' := h') e]
  | fieldAddr t x k => simp only [evRead, fieldAddrA_local (h := h) (h' := h') e]
  | slice t x lo hi mx =>
    cases mx with
    | none => simp only [evRead, sliceA_local (h := h) (h' := h') e]
    | some q => rfl
  | call c =>
    obtain ⟨callee, args, at_⟩ := c
    cases callee with
    | value f => rfl
    | invoke r m => rfl
    | builtin b =>
      cases b with
      | len =>
        simp only [evRead]
        split
        · rename_i x t hx ht
          rw [lenA_local (h := h) (h' := h') fun i hi => e i (by simp only [rdIds, hx]; simpa using hi)]
        · rfl
      | _ => rfl
  | convert src dst x => simp only [evRead, bytesA, srcA_local (h := h) (h' := h') e]
  | _ => rfl
/-- what lies between two numbers is new; all else is as it was -/
structure Adds (h : Nat → Option Blk) (next : Nat) (h' : Nat → Option Blk) (next' : Nat) : Prop where
  le : next ≤ next'
  old : ∀ id, ¬ (next ≤ id ∧ id < next') → h' id = h id
theorem adds_upd {h : Nat → Option Blk} {next : Nat} {b : Option Blk} : Adds h next (upd h next b) (next + 1) := ⟨Nat.le_succ _, fun id hid => upd_other _ _ _ _ (by omega)⟩
theorem frz_local {h h' : Nat → Option Blk} {a : AV} (e : ∀ i ∈ idsF a, h i = h' i) : frz h a = frz h' a := by
  have one : ∀ a, (∀ i ∈ ids1 a, h i = h' i) → frz1 h a = frz1 h' a := fun a e => by
    cases a with
    | own id g m off len => simp only [frz1, e id (by simp [ids1])]
    | bptr id off => simp only [frz1, e id (by simp [ids1])]
    | clo f caps => cases caps <;> rfl
    | _ => rfl
  cases a with
  | agg cs =>
    simp only [frz]
    congr 1
    refine List.map_congr_left fun x hx => one x fun i hi => e i ?_
    simp only [idsF, List.mem_flatMap]
    exact ⟨x, hx, hi⟩
  | own id g m off len => exact one (.own id g m off len) e
  | bptr id off => exact one (.bptr id off) e
  | clo f caps => cases caps <;> rfl
  | _ => rfl
theorem frzd_local {h h' : Nat → Option Blk} : ∀ {l : List Nat}, (∀ i ∈ l, h i = h' i) → frzd h l = frzd h' l
  | [], _ => rfl
  | i :: l, e => by
    unfold frzd
    rw [List.all_cons, List.all_cons, e i (by simp)]
    have := frzd_local (h := h) (h' := h') (l := l) fun j hj => e j (by simp [hj])
    unfold frzd at this
    rw [this]
theorem evMake_local {md : Bool} {op : Op} {ρ : Operand → AV} {h h' : Nat → Option Blk} {next : Nat} {orc : List Orc} {r : Res} (e : ∀ id ∈ rdIds op ρ, h id = h' id) (hf : frzd h (rdIds op ρ) = true) (hr : evMake P md op ρ h next orc = some r) :
    ∃ r', evMake P md op ρ h' next orc = some r' ∧ r'.v = r.v ∧ r'.orc = r.orc ∧ r'.cs = r.cs ∧ r'.next = r.next ∧ Adds h next r.heap r.next ∧ Adds h' next r'.heap r.next ∧ ∀ id, next ≤ id → id < r.next → r'.heap id = r.heap id := by
  have key : ∀ b : Option Blk, ∀ id, next ≤ id → id < next + 1 → upd h' next b id = upd h next b id := fun b id h1 h2 => by
    obtain rfl : id = next := by omega
    rw [upd_same, upd_same]
  cases op with
  | alloc t =>
    obtain ⟨z, hz, rfl⟩ := Option.map_eq_some_iff.1 hr
    exact ⟨⟨.bptr next 0, upd h' next (some ⟨0, false, t, .box z⟩), next + 1, orc, []⟩, by simp only [evMake, hz, Option.map_some], rfl, rfl, rfl, rfl, adds_upd, adds_upd, key _⟩
  | box t x =>
    obtain ⟨z, hz, rfl⟩ := Option.map_eq_some_iff.1 hr
    exact ⟨⟨.bptr next 0, upd h' next (some ⟨0, false, t, .box z⟩), next + 1, orc, []⟩, by simp only [evMake, hz, Option.map_some], rfl, rfl, rfl, rfl, adds_upd, adds_upd, key _⟩
  | makeSlice t x y =>
    unfold evMake at hr ⊢
    simp only at hr ⊢
    split at hr
    · rename_i e' hu
      split at hr
      · rename_i kl n kc c hx hy
        obtain ⟨i, hi, hr⟩ := Option.bind_eq_some_iff.1 hr
        obtain ⟨z, hz, hr⟩ := Option.bind_eq_some_iff.1 hr
        obtain ⟨hb, hr⟩ := bif_some hr
        obtain ⟨p, hp, rfl⟩ := Option.map_eq_some_iff.1 hr
        refine ⟨⟨.own next 0 i.size 0 n.toNat, upd h' next (some ⟨0, false, e', .rows i.size n.toNat fun _ j => z.getD j .junk⟩), next + 1, orc, p⟩, by simp only [hi, hz, Option.bind_some, hb, cond_true, hp, Option.map_some], rfl, rfl, rfl, rfl, adds_upd, adds_upd, key _⟩
      · cases hr
    · cases hr
  | buildSlice t len parts =>
    have e' : ∀ p ∈ parts.toList, ∀ i ∈ idsF (ρ p.2), h i = h' i := fun p hp i hi => e i (by simp only [rdIds, List.mem_flatMap]; exact ⟨p, hp, hi⟩)
    have e1 : (parts.toList.map fun p => (p.1, frz h (ρ p.2))) = (parts.toList.map fun p => (p.1, frz h' (ρ p.2))) := List.map_congr_left fun p hp => by rw [frz_local (e' p hp)]
    have hf' : frzd h' (rdIds (.buildSlice t len parts) ρ) = true := by rw [← frzd_local e]; exact hf
    have z1 := frzIds_frzd _ _ hf
    have z2 := frzIds_frzd _ _ hf'
    simp only [rdIds] at z1 z2
    unfold evMake at hr ⊢
    simp only [z1, z2, ← e1] at hr ⊢
    split at hr
    · rename_i e' hu
      obtain ⟨s, hs, hr⟩ := Option.bind_eq_some_iff.1 hr
      obtain ⟨hb, hr⟩ := bif_some hr
      obtain ⟨z, hz, hr⟩ := Option.bind_eq_some_iff.1 hr
      obtain ⟨cs, hcs, rfl⟩ := Option.map_eq_some_iff.1 hr
      refine ⟨⟨bif fzO orc then .row s len (fun i j => cs.getD (i * s + j) .junk) else .own next 0 s 0 len, upd h' next (some ⟨0, fzO orc, e', .rows s len fun i j => cs.getD (i * s + j) .junk⟩), next + 1, bif fzO orc then orc.tail else orc, []⟩, by simp only [hs, Option.bind_some, hb, cond_true, hz, hcs, Option.map_some], rfl, rfl, rfl, rfl, adds_upd, adds_upd, key _⟩
    · cases hr
  | _ => cases hr
/-- a call by contract -/
def callC (f : FuncId) (avs : List AV) (h : Nat → Option Blk) (next : Nat) (orc : List Orc) : Option Res :=
  match orc with
  | .cl args' res H :: orc => bif fnOk P f && rowsOnly H then
      (leL (le1 (fun _ => none) (fun _ => none) []) (avs.map (frz h)) args').map fun p => ⟨shift next res, addBlks (frzIds h (avs.flatMap idsF)) next H, next + H.length, orc, p ++ [PureC P f args' res H]⟩ else none
  | _ => none
theorem callC_local {f : FuncId} {avs : List AV} {h h' : Nat → Option Blk} {next : Nat} {orc : List Orc} {r : Res} (e : ∀ id ∈ avs.flatMap idsF, h id = h' id) (hf : frzd h (avs.flatMap idsF) = true) (hr : callC (P := P) f avs h next orc = some r) :
    ∃ r', callC (P := P) f avs h' next orc = some r' ∧ r'.v = r.v ∧ r'.orc = r.orc ∧ r'.cs = r.cs ∧ r'.next = r.next ∧ Adds h next r.heap r.next ∧ Adds h' next r'.heap r.next ∧ ∀ id, next ≤ id → id < r.next → r'.heap id = r.heap id := by
  have e1 : avs.map (frz h) = avs.map (frz h') := List.map_congr_left fun a ha => frz_local fun i hi => e i (List.mem_flatMap.2 ⟨a, ha, hi⟩)
  have hf' : frzd h' (avs.flatMap idsF) = true := by rw [← frzd_local e]; exact hf
  have z1 := frzIds_frzd _ _ hf
  have z2 := frzIds_frzd _ _ hf'
  unfold callC at hr ⊢
  split at hr
  · rename_i args' res H orc'
    obtain ⟨hb, hr⟩ := bif_some hr
    obtain ⟨p, hp, rfl⟩ := Option.map_eq_some_iff.1 hr
    simp only [hb, cond_true, ← e1, hp, Option.map_some]
    rw [z1, z2]
    refine ⟨_, rfl, rfl, rfl, rfl, rfl, ⟨Nat.le_add_right _ _, fun id hid => ?_⟩, ⟨Nat.le_add_right _ _, fun id hid => ?_⟩, fun id h1 h2 => ?_⟩
    · show addBlks h next H id = _
      rw [addBlks_get, if_neg hid]
    · show addBlks h' next H id = _
      rw [addBlks_get, if_neg hid]
    · show addBlks h' next H id = addBlks h next H id
      rw [addBlks_get, addBlks_get, if_pos ⟨h1, h2⟩, if_pos ⟨h1, h2⟩]
  · cases hr
end
end Go.Proofs.Ytdbnfdcjibgikaa.Rx
