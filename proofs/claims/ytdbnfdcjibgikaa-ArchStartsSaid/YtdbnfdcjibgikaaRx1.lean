/- Abstract values and states; a function's text carried out on them, with what is owed for it told as a list of propositions. -/
import Derived.Test.YtdbnfdcjibgikaaMem
import Derived.Outline
set_option linter.unusedVariables false
set_option linter.unusedSimpArgs false
namespace Go.Proofs.Ytdbnfdcjibgikaa.Rx
open Go.RowKit
/-- a value as it is known: own blocks by number, rows that are only read by their cells -/
inductive AV where
  | int (k : IntKind) (n : Int)
  | bool (b : Bool)
  | str (s : ByteArray)
  | nilp
  | bptr (id off : Nat)
  | eptr (id gen m i j : Nat)
  | rptr (m : Nat) (cs : Nat → AV) (j : Nat)
  | nils
  | own (id gen m off len : Nat)
  | row (m n : Nat) (f : Nat → Nat → AV)
  | agg (cs : List AV)
  | tup (vs : List AV)
  | clo (f : FuncId) (caps : List AV)
  | val (v : Value)
  | junk
instance : Inhabited AV := ⟨.junk⟩
/-- a block of the call's own: a variable of some cells, or a row of n elements of m cells -/
inductive BC where
  | box (cs : List AV)
  | rows (m n : Nat) (f : Nat → Nat → AV)
structure Blk where
  gen : Nat
  frz : Bool
  e : TypeId
  c : BC
structure St where
  env : Nat → AV
  heap : Nat → Option Blk
  next : Nat
def upd {α : Type} (f : Nat → α) (i : Nat) (v : α) : Nat → α := fun j => bif Nat.beq j i then v else f j
def look {α : Type} (d : α) : List (Nat × α) → Nat → α
  | [], _ => d
  | (k, v) :: l, j => bif Nat.beq j k then v else look d l j
def lookO {α : Type} : List (Nat × α) → Nat → Option α
  | [], _ => none
  | (k, v) :: l, j => bif Nat.beq j k then some v else lookO l j
/-- a state written out: what is not named is unknown -/
structure Sm where
  env : List (Nat × AV)
  heap : List (Nat × Blk)
  next : Nat
def Sm.st (s : Sm) : St := ⟨look .junk s.env, lookO s.heap, s.next⟩
inductive X where
  | nrm
  | ext (id : Nat)
  | ret
/-- what leads a run: decisions, numbers, summaries -/
inductive Orc where
  | b (t : Bool)
  | ix (k : Nat)
  | ov
  | mt
  | it (k : Nat)
  | lp (r : List (Nat × Nat)) (I : Sm) (x : X) (J : Sm)
  | cl (args : List AV) (res : AV) (H : List Blk)
  | inl
  | le (r : List (Nat × Nat)) (I : Sm)
  | su (r : List (Nat × Nat)) (I : Sm) (x : X) (J : Sm)
  | by_ (zs : List Int)
  | fz
  | iy (k : Nat)
  | sr (r : List (Nat × Nat)) (I : Sm) (x : X) (J : Sm)
structure Res where
  v : AV
  heap : Nat → Option Blk
  next : Nat
  orc : List Orc
  cs : List Prop
/-- what is to hold: told, or, of numbers alone, computed -/
def chk (md : Bool) (p : Prop) [d : Decidable p] : Option (List Prop) :=
  match md, d with
  | false, _ => some [p]
  | true, .isTrue _ => some []
  | true, .isFalse _ => none
def guardO (b : Bool) : Option Unit := bif b then some () else none
def AV.ofCell : Value → AV
  | .int k n => .int k n
  | .bool b => .bool b
  | .string s => .str s
  | .pointer none => .nilp
  | .slice none 0 0 => .nils
  | v => .val v
def AV.ofVal : Value → AV
  | .agg cs => bif cs.toList.all (·.oneCell') then .agg (cs.toList.map AV.ofCell) else .junk
  | .tuple _ => .junk
  | .func (.func f) first caps => bif first.isEmpty && caps.isEmpty then .clo f [] else .junk
  | v => AV.ofCell v
/-- the cells of a value; none: not known -/
def AV.cells : AV → Option (List AV)
  | .agg cs => some cs
  | .tup _ => none
  | .junk => none
  | .val v => bif v.oneCell' then some [.val v] else none
  | a => some [a]
def evalA (env : Nat → AV) : Operand → AV
  | .tmp t => env t
  | .const v => .ofVal v
  | .global _ => .junk
  | .func f => .clo f []
section
variable (P : Program)
def szOf (t : TypeId) : Option Nat := (P.info? t).map (·.size)
def aggOf (t : TypeId) : Option Bool := (P.underlying t).map fun | .struct _ | .array _ _ => true | _ => false
/-- a part of so many cells, as its type has it -/
def partA (t : TypeId) (cs : List AV) (off : Nat) : Option AV := do
  let s ← szOf P t
  let g ← aggOf P t
  if g then do
    guardO (Nat.ble (off + s) cs.length)
    some (.agg ((cs.drop off).take s))
  else cs[off]?
def partF (t : TypeId) (m : Nat) (f : Nat → AV) (off : Nat) : Option AV := do
  let s ← szOf P t
  let g ← aggOf P t
  guardO (Nat.ble (off + s) m)
  if g then some (.agg ((List.range s).map fun k => f (off + k)))
  else do guardO (Nat.beq s 1); some (f off)
def fieldOf (t : TypeId) (k : Nat) : Option (Nat × TypeId) :=
  match P.underlying t with
  | some (.struct fs) => (fs[k]?).bind fun f => (szOf P f.type).bind fun s => bif Nat.blt 0 s then some (f.offset, f.type) else none
  | _ => none
def zeroA (t : TypeId) : Option (List AV) := (P.info? t).bind fun i => i.zero.bind fun z => bif z.cells.toList.all (·.oneCell') && Nat.beq z.cells.size i.size then some (z.cells.toList.map .ofCell) else none
def setR (cs : List AV) (off : Nat) : List AV → List AV
  | [] => cs
  | v :: vs => setR (cs.set off v) (off + 1) vs
def fillA (place : Nat → Option (Nat × Nat)) (cs : List AV) : List (Nat × AV) → Option (List AV)
  | [] => some cs
  | (i, v) :: rest => do
    let (off, size) ← place i
    let vs ← v.cells
    guardO (Nat.beq vs.length size && Nat.ble (off + size) cs.length)
    fillA place (setR cs off vs) rest
/-- a cell that names no block of the call's own -/
def baseA : AV → Bool
  | .int .. | .bool _ | .str _ | .nilp | .nils | .row .. | .val _ | .junk | .rptr .. => true
  | _ => false
/-- a slice of the call's own as a row that is read, a variable as one that is read -/
def frz1 (h : Nat → Option Blk) : AV → AV
  | .own id g m off len => match h id with
    | some ⟨g', _, _, .rows m' _ f⟩ => bif Nat.beq g g' && Nat.beq m m' then .row m len (fun i j => f (i + off) j) else .junk
    | _ => .junk
  | .bptr id off => match h id with
    | some ⟨_, _, _, .box cs⟩ => bif cs.all baseA then .rptr cs.length (fun q => cs.getD q .junk) off else .junk
    | _ => .junk
  | .eptr .. | .agg .. | .tup .. => .junk
  | .clo f (_ :: _) => .junk
  | a => a
def frz (h : Nat → Option Blk) : AV → AV
  | .agg cs => .agg (cs.map (frz1 h))
  | a => frz1 h a
def ids1 : AV → List Nat
  | .own id _ _ _ _ => [id]
  | .bptr id _ => [id]
  | _ => []
def idsF : AV → List Nat
  | .agg cs => cs.flatMap ids1
  | a => ids1 a
def frzIds (h : Nat → Option Blk) : List Nat → (Nat → Option Blk)
  | [] => h
  | id :: l => match h id with
    | some b => frzIds (upd h id (some { b with frz := true })) l
    | none => frzIds h l
/-- a result's own numbers, from N on -/
def shiftC (N : Nat) : AV → AV
  | .own id g m off len => .own (id + N) g m off len
  | .bptr .. | .eptr .. | .rptr .. | .agg .. | .tup .. => .junk
  | .clo f (_ :: _) => .junk
  | a => a
def shift1 (N : Nat) : AV → AV
  | .agg cs => .agg (cs.map (shiftC N))
  | a => shiftC N a
def shift (N : Nat) : AV → AV
  | .tup vs => .tup (vs.map (shift1 N))
  | a => shift1 N a
def addBlks (h : Nat → Option Blk) (N : Nat) : List Blk → (Nat → Option Blk)
  | [] => h
  | b :: l => addBlks (upd h N (some b)) (N + 1) l
def leL (le : AV → AV → Option (List Prop)) : List AV → List AV → Option (List Prop)
  | [], [] => some []
  | a :: l, b :: l' => match le a b, leL le l l' with
    | some p, some q => some (p ++ q)
    | _, _ => none
  | _, _ => none
/-- the number of a slice of the call's own, as the heap has it now -/
def curG (h : Nat → Option Blk) (id g : Nat) : Bool := match h id with
  | some b => Nat.beq b.gen g
  | none => false
/-- what one must show for a cell known as a to be known as b: numbers of b's blocks by r -/
def leC (hs hI : Nat → Option Blk) (r : List (Nat × Nat)) (a b : AV) : Option (List Prop) :=
  match b with
  | .junk => some []
  | .int k' y => match a with
    | .int k x => if k = k' then some [x = y] else none
    | _ => none
  | .bool y => match a with
    | .bool x => some [x = y]
    | _ => none
  | .str y => match a with
    | .str x => some [x = y]
    | _ => none
  | .nilp => match a with
    | .nilp => some []
    | _ => none
  | .nils => match a with
    | .nils => some []
    | _ => none
  | .bptr id' off' => match a with
    | .bptr id off => (lookO r id').bind fun i => bif Nat.beq i id && Nat.beq off off' && (hI id').isSome then some [] else none
    | _ => none
  | .own id' g' m' off' len' => match a with
    | .nils => match hI id' with
      | some ⟨g'', _, _, .rows m'' _ _⟩ => bif (lookO r id').isNone && Nat.beq g'' g' && Nat.beq m'' m' then some [off' = 0, len' = 0] else none
      | _ => none
    | .own id g m off len => (lookO r id').bind fun i => bif Nat.beq i id && Nat.beq m m' && curG hs id g && curG hI id' g' then some [off = off', len = len'] else none
    | _ => none
  | .row m' n' f' => match a with
    | .nils => some [n' = 0]
    | .row m n f => bif Nat.beq m m' then some [n = n', ∀ i, i < n → ∀ j, j < m → f i j = f' i j] else none
    | .own id g m off len => match hs id with
      | some ⟨g', fz, _, .rows m'' n f⟩ => bif Nat.beq g g' && Nat.beq m m' && Nat.beq m m'' && (fz || r.all fun q => !(Nat.beq q.2 id)) then some [len = n', ∀ i, i < len → ∀ j, j < m → f (i + off) j = f' i j] else none
      | _ => none
    | _ => none
  | .rptr m' cs' j' => match a with
    | .rptr m cs j => bif Nat.beq m m' && Nat.beq j j' then some [∀ q, q < m → cs q = cs' q] else none
    | _ => none
  | .clo f' [] => match a with
    | .clo f [] => bif Nat.beq f f' then some [] else none
    | _ => none
  | .val v' => match a with
    | .val v => some [v = v']
    | _ => none
  | _ => none
def le1 (hs hI : Nat → Option Blk) (r : List (Nat × Nat)) (a b : AV) : Option (List Prop) :=
  match b with
  | .agg cs' => match a with
    | .agg cs => leL (leC hs hI r) cs cs'
    | _ => none
  | .clo f' (c :: cs') => match a with
    | .clo f cs => bif Nat.beq f f' then leL (leC hs hI r) cs (c :: cs') else none
    | _ => none
  | b => leC hs hI r a b
def leV (hs hI : Nat → Option Blk) (r : List (Nat × Nat)) (a b : AV) : Option (List Prop) :=
  match b with
  | .tup cs' => match a with
    | .tup cs => leL (le1 hs hI r) cs cs'
    | _ => none
  | b => le1 hs hI r a b
/-- a block known as another -/
def leB (hs hI : Nat → Option Blk) (r : List (Nat × Nat)) (b : Option Blk) (b' : Blk) : Option (List Prop) :=
  match b with
  | none => match b'.c with
    | .rows _ n' _ => bif b'.frz then none else some [n' = 0]
    | _ => none
  | some b => bif Nat.beq b.e b'.e && (b.frz == b'.frz) then match b'.c with
    | .box cs' => match b.c with
      | .box cs => leL (leC hs hI r) cs cs'
      | _ => none
    | .rows m' n' f' => match b.c with
      | .rows m n f => bif Nat.beq m m' then some [n = n', ∀ i, i < n → ∀ j, j < m → f i j = f' i j] else none
      | _ => none
    else none
def leH (hs hI : Nat → Option Blk) (r : List (Nat × Nat)) : List (Nat × Blk) → Option (List Prop)
  | [] => some []
  | (id', b') :: l => match lookO r id' with
    | some id => match hs id with
      | some b => (leB hs hI r (some b) b').bind fun p => (leH hs hI r l).map (p ++ ·)
      | none => none
    | none => (leB hs hI r none b').bind fun p => (leH hs hI r l).map (p ++ ·)
def leE (hs hI : Nat → Option Blk) (r : List (Nat × Nat)) (env : Nat → AV) : List (Nat × AV) → Option (List Prop)
  | [] => some []
  | (t, b) :: l => (leV hs hI r (env t) b).bind fun p => (leE hs hI r env l).map (p ++ ·)
def nodupB : List Nat → Bool
  | [] => true
  | a :: l => (l.all fun b => !(Nat.beq a b)) && nodupB l
/-- a state known as another: what one must show -/
def leS (r : List (Nat × Nat)) (st : St) (I : Sm) : Option (List Prop) :=
  bif nodupB (r.map (·.2)) && nodupB (r.map (·.1)) && nodupB (I.heap.map (·.1)) && (I.heap.all fun q => Nat.blt q.1 I.next) && (r.all fun q => (lookO I.heap q.1).isSome) then
    (leH st.heap (lookO I.heap) r I.heap).bind fun p => (leE st.heap (lookO I.heap) r st.env I.env).map (p ++ ·)
  else none
end
end Go.Proofs.Ytdbnfdcjibgikaa.Rx
