/- A function's text, carried out on abstract states. -/
import Derived.Test.YtdbnfdcjibgikaaRx1
set_option linter.unusedVariables false
set_option linter.unusedSimpArgs false
namespace Go.Proofs.Ytdbnfdcjibgikaa.Rx
open Go.RowKit
def inK (k : IntKind) (n : Int) : Prop := k.min ≤ n ∧ n ≤ k.max
instance (k : IntKind) (n : Int) : Decidable (inK k n) := inferInstanceAs (Decidable (_ ∧ _))
def minL (k : IntKind) : Int → List AV → Option Int
  | x, [] => some x
  | x, .int k' y :: l => if k = k' then minL k (if y < x then y else x) l else none
  | _, _ => none
def maxL (k : IntKind) : Int → List AV → Option Int
  | x, [] => some x
  | x, .int k' y :: l => if k = k' then maxL k (if x < y then y else x) l else none
  | _, _ => none
/-- what a walk needs of an operation: pure ones -/
structure Pu where
  v : AV
  orc : List Orc
  cs : List Prop
section
variable (P : Program)
def eqFs (eq : TypeId → AV → AV → Option Bool) (xs ys : List AV) : List Field → Option Bool
  | [] => some true
  | f :: fs => bif f.name == "_" then none else (partA P f.type xs f.offset).bind fun a => (partA P f.type ys f.offset).bind fun b => (eq f.type a b).bind fun r =>
      (eqFs eq xs ys fs).map fun q => bif r then q else false
def eqIs (eq : TypeId → AV → AV → Option Bool) (e : TypeId) (c : Nat) (xs ys : List AV) : List Nat → Option Bool
  | [] => some true
  | i :: is => (partA P e xs (i * c)).bind fun a => (partA P e ys (i * c)).bind fun b => (eq e a b).bind fun r =>
      (eqIs eq e c xs ys is).map fun q => bif r then q else false
/-- '==' at a type -/
def eqT : Nat → TypeId → AV → AV → Option Bool
  | 0, _, _, _ => none
  | d + 1, t, x, y => match P.underlying t with
    | some .bool => match x, y with
      | .bool a, .bool b => some (a == b)
      | _, _ => none
    | some (.int _) => match x, y with
      | .int k a, .int k' b => if k = k' then some (a == b) else none
      | _, _ => none
    | some .string => match x, y with
      | .str a, .str b => some (a.toList == b.toList)
      | _, _ => none
    | some (.struct fs) => match x, y with
      | .agg xs, .agg ys => bif P.stoodInHeld t then none else eqFs P (eqT d) xs ys fs.toList
      | _, _ => none
    | some (.array n e) => match x, y with
      | .agg xs, .agg ys => bif (P.info? e).isSome then eqIs P (eqT d) e (P.cellsOf e) xs ys (List.range n) else none
      | _, _ => none
    | _ => none
def arith (md : Bool) (k : IntKind) (n : Int) (orc : List Orc) : Option Pu :=
  match orc with
  | .ov :: orc => some ⟨.int k (k.wrap n), orc, []⟩
  | orc => (chk md (inK k n)).map fun p => ⟨.int k n, orc, p⟩
def binI (md : Bool) (op : BinOp) (k : IntKind) (a b : Int) (orc : List Orc) : Option Pu :=
  match op with
  | .add => arith md k (a + b) orc
  | .sub => arith md k (a - b) orc
  | .mul => arith md k (a * b) orc
  | .quo => (chk md (b ≠ 0)).bind fun p => (arith md k (a.tdiv b) orc).map fun r => { r with cs := p ++ r.cs }
  | .rem => (chk md (b ≠ 0)).map fun p => ⟨.int k (a.tmod b), orc, p⟩
  | .and => some ⟨.int k (bits .and k a b), orc, []⟩
  | .or => some ⟨.int k (bits .or k a b), orc, []⟩
  | .xor => some ⟨.int k (bits .xor k a b), orc, []⟩
  | .andNot => some ⟨.int k (bits .andNot k a b), orc, []⟩
  | .eql => some ⟨.bool (a == b), orc, []⟩
  | .neq => some ⟨.bool (a != b), orc, []⟩
  | .lss => some ⟨.bool (decide (a < b)), orc, []⟩
  | .leq => some ⟨.bool (decide (a ≤ b)), orc, []⟩
  | .gtr => some ⟨.bool (decide (a > b)), orc, []⟩
  | .geq => some ⟨.bool (decide (a ≥ b)), orc, []⟩
  | _ => none
def binS (md : Bool) (op : BinOp) (k : IntKind) (a b : Int) (orc : List Orc) : Option Pu :=
  match op with
  | .shl => (chk md (0 ≤ b)).map fun p => ⟨.int k (k.wrap (a * 2 ^ min b.toNat k.bits)), orc, p⟩
  | .shr => (chk md (0 ≤ b)).map fun p => ⟨.int k (a.fdiv (2 ^ min b.toNat k.bits)), orc, p⟩
  | _ => none
def isSh : BinOp → Bool
  | .shl | .shr => true
  | _ => false
def binA (md : Bool) (op : BinOp) (t : TypeId) (x y : AV) (orc : List Orc) : Option Pu :=
  match x, y with
  | .int k a, .int k' b => bif isSh op then binS md op k a b orc else if k = k' then binI md op k a b orc else none
  | .bool a, .bool b => match P.underlying t with
    | some .bool => match op with
      | .eql => some ⟨.bool (a == b), orc, []⟩
      | .neq => some ⟨.bool (!(a == b)), orc, []⟩
      | _ => none
    | _ => none
  | .str a, .str b => match op with
    | .add => (chk md (a.size + b.size ≤ 9223372036854775807)).map fun p => ⟨.str (a ++ b), orc, p⟩
    | .eql => some ⟨.bool (a.toList == b.toList), orc, []⟩
    | .neq => some ⟨.bool (!(a.toList == b.toList)), orc, []⟩
    | _ => none
  | .agg xs, .agg ys => bif P.eqGuardType P.depth t then none else (eqT P 10000 t (.agg xs) (.agg ys)).bind fun r => match op with
    | .eql => some ⟨.bool r, orc, []⟩
    | .neq => some ⟨.bool (!r), orc, []⟩
    | _ => none
  | _, _ => none
def unA (md : Bool) (op : UnOp) (x : AV) (orc : List Orc) : Option Pu :=
  match op, x with
  | .not, .bool b => some ⟨.bool (!b), orc, []⟩
  | .neg, .int k a => arith md k (0 - a) orc
  | _, _ => none
def pickA (c x y : AV) (orc : List Orc) : Option Pu :=
  match c with
  | .bool b => match orc with
    | .b t :: orc => some ⟨bif t then x else y, orc, [b = t]⟩
    | orc => match x, y with
      | .bool a, .bool a' => some ⟨.bool (bif b then a else a'), orc, []⟩
      | x, y => match b with
        | true => some ⟨x, orc, []⟩
        | false => some ⟨y, orc, []⟩
  | _ => none
/-- a number, or what stands where none is given -/
def intO (d : Int) (ρ : Operand → AV) : Option Operand → Option Int
  | none => some d
  | some q => match ρ q with
    | .int _ a => some a
    | _ => none
def sliceA (md : Bool) (t : TypeId) (x : AV) (ρ : Operand → AV) (lo hi : Option Operand) (h : Nat → Option Blk) (orc : List Orc) : Option Pu :=
  match x with
  | .str s => match P.underlying t with
    | some .string => (intO 0 ρ lo).bind fun l => (intO s.size ρ hi).bind fun u => (chk md (0 ≤ l ∧ l ≤ u ∧ u ≤ s.size)).map fun p =>
      ⟨.str (s.extract l.toNat u.toNat), orc, p⟩
    | _ => none
  | .nils => match P.underlying t with
    | some (.slice e) => (szOf P e).bind fun _ => (intO 0 ρ lo).bind fun l => (intO 0 ρ hi).bind fun u => (chk md (l = 0 ∧ u = 0)).map fun p => ⟨.nils, orc, p⟩
    | _ => none
  | .own id g m off len => match P.underlying t with
    | some (.slice e) => bif (match szOf P e with | some s => Nat.beq s m | none => false) && curG h id g then (intO len ρ hi).bind fun u => match lo with
      | none => (chk md (0 ≤ u ∧ u ≤ len)).map fun p => ⟨.own id g m off u.toNat, orc, p⟩
      | some q => (intO 0 ρ (some q)).bind fun l => match orc with
        | .mt :: orc => (chk md (0 ≤ l ∧ l = u ∧ u ≤ len)).map fun p => ⟨.row m 0 (fun _ _ => .junk), orc, p⟩
        | orc => (chk md (0 ≤ l ∧ l < u ∧ u ≤ len)).map fun p => ⟨.own id g m (off + l.toNat) (u.toNat - l.toNat), orc, p⟩ else none
    | _ => none
  | .row m n f => match P.underlying t with
    | some (.slice e) => bif (match szOf P e with | some s => Nat.beq s m | none => false) then (intO n ρ hi).bind fun u => match lo with
      | none => (chk md (0 ≤ u ∧ u ≤ n)).map fun p => ⟨.row m u.toNat f, orc, p⟩
      | some q => (intO 0 ρ (some q)).bind fun l => (chk md (0 ≤ l ∧ l ≤ u ∧ u ≤ n)).map fun p => ⟨.row m (u.toNat - l.toNat) (fun i j => f (i + l.toNat) j), orc, p⟩ else none
    | _ => none
  | .rptr m cs j => match P.underlying t, lo, hi with
    | some (.array n e), none, none => (szOf P e).bind fun s => bif Nat.ble (j + n * s) m && Nat.ble n 1000000 then some ⟨.row s n (fun i k => cs (j + (i * s + k))), orc, []⟩ else none
    | _, _, _ => none
  | _ => none
def fieldAddrA (t : TypeId) (x : AV) (k : Nat) (h : Nat → Option Blk) : Option AV :=
  (fieldOf P t k).bind fun q => match x with
    | .bptr id off => some (.bptr id (off + q.1))
    | .eptr id g m i j => bif curG h id g then some (.eptr id g m i (j + q.1)) else none
    | .rptr m cs j => some (.rptr m cs (j + q.1))
    | _ => none
def indexAddrA0 (md : Bool) (t : TypeId) (x q : AV) (h : Nat → Option Blk) (orc : List Orc) : Option Pu :=
  match q with
  | .int _ i => match x with
    | .bptr id off => match P.underlying t with
      | some (.array n e) => (szOf P e).bind fun s => match orc with
        | .ix k :: orc => bif Nat.blt k n then some ⟨.bptr id (off + k * s), orc, [i = (k : Int)]⟩ else none
        | orc => (chk true (0 ≤ i ∧ i < (n : Int))).map fun _ => ⟨.bptr id (off + i.toNat * s), orc, []⟩
      | _ => none
    | .own id g m off len => match P.underlying t with
      | some (.slice e) => bif (match szOf P e with | some s => Nat.beq s m | none => false) && curG h id g then
          (chk md (0 ≤ i ∧ i < (len : Int))).map fun p => ⟨.eptr id g m (i.toNat + off) 0, orc, p⟩ else none
      | _ => none
    | .row m n f => match P.underlying t with
      | some (.slice e) => bif (match szOf P e with | some s => Nat.beq s m | none => false) && Nat.blt 0 m then
          (chk md (0 ≤ i ∧ i < (n : Int))).map fun p => ⟨.rptr m (f i.toNat) 0, orc, p⟩ else none
      | _ => none
    | _ => none
  | _ => none
/-- as above; or at a place that the script names -/
def indexAddrA (md : Bool) (t : TypeId) (x q : AV) (h : Nat → Option Blk) (orc : List Orc) : Option Pu :=
  match orc with
  | .iy k :: orc' => match q with
    | .int kk i => (indexAddrA0 P md t x (.int kk (k : Int)) h orc').map fun r => ⟨r.v, r.orc, (i = (k : Int)) :: r.cs⟩
    | _ => none
  | orc => indexAddrA0 P md t x q h orc
def indexA (md : Bool) (t : TypeId) (x q : AV) (orc : List Orc) : Option Pu :=
  match q with
  | .int _ i => match x with
    | .agg cs => match P.underlying t with
      | some (.array n e) => (szOf P e).bind fun s => match orc with
        | .ix k :: orc => bif Nat.blt k n then (partA P e cs (k * s)).map fun v => ⟨v, orc, [i = (k : Int)]⟩ else none
        | orc => (chk true (0 ≤ i ∧ i < (n : Int))).bind fun _ => (partA P e cs (i.toNat * s)).map fun v => ⟨v, orc, []⟩
      | _ => none
    | .str s => match P.underlying t with
      | some .string => (chk md (0 ≤ i ∧ i < (s.size : Int))).map fun p => ⟨.int .u8 ((s.data.toList.getD i.toNat 0).toNat : Int), orc, p⟩
      | _ => none
    | _ => none
  | _ => none
def convertA (src dst : TypeId) (x : AV) : Option AV :=
  match P.underlying src, P.underlying dst with
  | some _, some (.int k) => match x with
    | .int _ n => some (.int k (k.wrap n))
    | _ => none
  | some .string, some .string => match x with
    | .str s => some (.str s)
    | _ => none
  | _, _ => none
/-- operations that look at their operands alone -/
def evPure (md : Bool) (op : Op) (ρ : Operand → AV) (orc : List Orc) : Option Pu :=
  match op with
  | .move x => some ⟨ρ x, orc, []⟩
  | .assign x => some ⟨ρ x, orc, []⟩
  | .pick c x y => pickA (ρ c) (ρ x) (ρ y) orc
  | .nilCheck x => match ρ x with
    | .bptr id off => some ⟨.bptr id off, orc, []⟩
    | .rptr m cs j => some ⟨.rptr m cs j, orc, []⟩
    | .clo f cs => some ⟨.clo f cs, orc, []⟩
    | _ => none
  | .binOp op t x y _ => binA P md op t (ρ x) (ρ y) orc
  | .unOp op _ x => unA md op (ρ x) orc
  | .convert src dst x => (convertA P src dst (ρ x)).map fun v => ⟨v, orc, []⟩
  | .field t x k => match ρ x with
    | .agg cs => (fieldOf P t k).bind fun q => (partA P q.2 cs q.1).map fun v => ⟨v, orc, []⟩
    | _ => none
  | .index t x q => indexA P md t (ρ x) (ρ q) orc
  | .extract x k => match ρ x with
    | .tup vs => (vs[k]?).map fun v => ⟨v, orc, []⟩
    | _ => none
  | .makeFunc (.func f) first caps => bif first.isEmpty then some ⟨.clo f (caps.toList.map ρ), orc, []⟩ else none
  | .build t parts => (zeroA P t).bind fun z => match P.underlying t with
    | some (.struct fs) => (fs.toList.mapM fun f => (P.info? f.type).map fun i => (f.offset, i.size)).bind fun pl =>
      (fillA (fun i => pl[i]?) z (parts.toList.map fun p => (p.1, ρ p.2))).map fun cs => ⟨.agg cs, orc, []⟩
    | some (.array _ e) => (szOf P e).bind fun s =>
      (fillA (fun i => some (i * s, s)) z (parts.toList.map fun p => (p.1, ρ p.2))).map fun cs => ⟨.agg cs, orc, []⟩
    | _ => none
  | .call { callee := .builtin .min, args, .. } => match args.toList.map ρ with
    | .int k x :: l => (minL k x l).map fun v => ⟨.int k v, orc, []⟩
    | _ => none
  | .call { callee := .builtin .max, args, .. } => match args.toList.map ρ with
    | .int k x :: l => (maxL k x l).map fun v => ⟨.int k v, orc, []⟩
    | _ => none
  | _ => none
def loadA (md : Bool) (t : TypeId) (x : AV) (h : Nat → Option Blk) : Option (AV × List Prop) :=
  match x with
  | .bptr id off => match h id with
    | some ⟨_, _, _, .box cs⟩ => (partA P t cs off).map fun v => (v, [])
    | _ => none
  | .eptr id g m i j => match h id with
    | some ⟨g', _, _, .rows m' n f⟩ => bif Nat.beq m m' && Nat.beq g g' then (partF P t m (f i) j).bind fun v => (chk md (i < n)).map fun p => (v, p) else none
    | _ => none
  | .rptr m cs j => (partF P t m cs j).map fun v => (v, [])
  | _ => none
def lenA (t : TypeId) (x : AV) (h : Nat → Option Blk) : Option Int :=
  match P.underlying t with
  | some .string => match x with
    | .str s => some (s.size : Int)
    | _ => none
  | some (.slice _) => match x with
    | .nils => some 0
    | .row _ n _ => some (n : Int)
    | .own id g _ _ len => bif curG h id g then some (len : Int) else none
    | _ => none
  | some (.array n _) => some (n : Int)
  | _ => none
/-- what is appended: how many, and what they are -/
def srcA (y : AV) (m : Nat) (h : Nat → Option Blk) : Option (Nat × (Nat → Nat → AV)) :=
  match y with
  | .nils => some (0, fun _ _ => AV.junk)
  | .row m' n f => bif Nat.beq m m' then some (n, f) else none
  | .own id g m' off len => match h id with
    | some ⟨g', _, _, .rows m'' _ f⟩ => bif Nat.beq m m' && Nat.beq m m'' && Nat.beq g g' then some (len, fun i j => f (i + off) j) else none
    | _ => none
  | _ => none
/-- the text of a row of bytes -/
def byteOf : AV → Option Int
  | .int k n => if k = .u8 then some n else none
  | _ => none
def bytesA (x : AV) (h : Nat → Option Blk) (orc : List Orc) : Option Pu :=
  (srcA x 1 h).bind fun q => match orc with
    | .by_ zs :: orc => some ⟨.str (strOfNums zs), orc, [q.1 = zs.length, ∀ i, i < q.1 → q.2 i 0 = .int .u8 (zs.getD i 0)]⟩
    | orc => ((List.range q.1).mapM fun i => byteOf (q.2 i 0)).map fun zs => ⟨.str (strOfNums zs), orc, []⟩
/-- operations that look at memory too -/
def evRead (md : Bool) (op : Op) (ρ : Operand → AV) (h : Nat → Option Blk) (orc : List Orc) : Option Pu :=
  match op with
  | .load t x => (loadA P md t (ρ x) h).map fun r => ⟨r.1, orc, r.2⟩
  | .indexAddr t x q => indexAddrA P md t (ρ x) (ρ q) h orc
  | .fieldAddr t x k => (fieldAddrA P t (ρ x) k h).map fun v => ⟨v, orc, []⟩
  | .slice t x lo hi none => sliceA P md t (ρ x) ρ lo hi h orc
  | .call { callee := .builtin .len, args, argTypes } => match args.toList, argTypes.toList with
    | [x], [t] => (lenA P t (ρ x) h).map fun n => ⟨.int .i64 n, orc, []⟩
    | _, _ => none
  | .convert src dst x => match P.underlying src, P.underlying dst with
    | some (.slice e), some .string => match P.underlying e with
      | some (.int .u8) => bytesA (ρ x) h orc
      | _ => none
    | _, _ => none
  | _ => none
/-- a row that is only read from the moment it is made -/
def fzO : List Orc → Bool
  | .fz :: _ => true
  | _ => false
/-- operations that make a block -/
def evMake (md : Bool) (op : Op) (ρ : Operand → AV) (h : Nat → Option Blk) (next : Nat) (orc : List Orc) : Option Res :=
  match op with
  | .alloc e => (zeroA P e).map fun z => ⟨.bptr next 0, upd h next (some ⟨0, false, e, .box z⟩), next + 1, orc, []⟩
  | .box e x => (ρ x).cells.map fun cs => ⟨.bptr next 0, upd h next (some ⟨0, false, e, .box cs⟩), next + 1, orc, []⟩
  | .buildSlice t len parts => match P.underlying t with
    | some (.slice e) => (szOf P e).bind fun s => bif Nat.blt 0 s && Nat.ble (len * s) 1000000 then (zeroA P e).bind fun z =>
        (fillA (fun i => some (i * s, s)) ((List.range (len * s)).map fun k => z.getD (k % s) .junk) (parts.toList.map fun p => (p.1, frz h (ρ p.2)))).map fun cs =>
          ⟨bif fzO orc then .row s len (fun i j => cs.getD (i * s + j) .junk) else .own next 0 s 0 len, upd (frzIds h (parts.toList.flatMap fun p => idsF (ρ p.2))) next (some ⟨0, fzO orc, e, .rows s len fun i j => cs.getD (i * s + j) .junk⟩), next + 1, bif fzO orc then orc.tail else orc, []⟩ else none
    | _ => none
  | .makeSlice t x y => match P.underlying t with
    | some (.slice e) => match ρ x, ρ y with
      | .int _ n, .int _ c => (P.info? e).bind fun i => (zeroA P e).bind fun z => bif Nat.blt 0 i.size then
          (chk md (0 ≤ n ∧ n ≤ c ∧ c * i.bytes ≤ 140737488355328 ∧ c ≤ 140737488355328)).map fun p =>
          ⟨.own next 0 i.size 0 n.toNat, upd h next (some ⟨0, false, e, .rows i.size n.toNat fun _ j => z.getD j .junk⟩), next + 1, orc, p⟩ else none
      | _, _ => none
    | _ => none
  | _ => none
def storeA (md : Bool) (t : TypeId) (x y : AV) (h : Nat → Option Blk) : Option ((Nat → Option Blk) × List Prop) :=
  (szOf P t).bind fun s => match x with
  | .bptr id off => match h id with
    | some ⟨g, false, e, .box cs⟩ => y.cells.bind fun vs => bif Nat.beq vs.length s && Nat.ble (off + s) cs.length then
        some (upd h id (some ⟨g, false, e, .box (setR cs off vs)⟩), []) else none
    | _ => none
  | .eptr id g0 m i j => match h id with
    | some ⟨g, false, e, .rows m' n f⟩ => (frz h y).cells.bind fun vs => bif Nat.beq vs.length s && Nat.ble (j + s) m && Nat.beq m m' && Nat.beq g0 g && ((idsF y).all fun k => !(Nat.beq k id)) then
        (chk md (i < n)).map fun p => (upd (frzIds h (idsF y)) id (some ⟨g, false, e, .rows m n fun i' j' => bif Nat.beq i' i && Nat.ble j j' && Nat.blt j' (j + s) then vs.getD (j' - j) .junk else f i' j'⟩), p) else none
    | _ => none
  | _ => none
def appendA (md : Bool) (t : TypeId) (x y : AV) (h : Nat → Option Blk) (next : Nat) (orc : List Orc) : Option Res :=
  match P.underlying t with
  | some (.slice e) => (P.info? e).bind fun i => (zeroA P e).bind fun z => bif Nat.blt 0 i.size then (srcA y i.size h).bind fun q => match x with
    | .nils => (chk md (q.1 * i.bytes ≤ 140737488355328 ∧ q.1 ≤ 140737488355328)).map fun p =>
        ⟨.own next 0 i.size 0 q.1, upd h next (some ⟨0, false, e, .rows i.size q.1 q.2⟩), next + 1, orc, p⟩
    | .own id g m off len => match h id with
      | some ⟨g', false, e', .rows m' n f⟩ => bif Nat.beq m i.size && Nat.beq m m' && Nat.beq e e' && Nat.beq g g' then
          (chk md (off = 0 ∧ len = n ∧ (n + q.1) * i.bytes ≤ 140737488355328 ∧ n + q.1 ≤ 140737488355328)).map fun p =>
          ⟨.own id (g + 1) m 0 (n + q.1), upd h id (some ⟨g + 1, false, e, .rows m (n + q.1) fun i j => bif Nat.blt i n then f i j else q.2 (i - n) j⟩), next, orc, p⟩ else none
      | _ => none
    | _ => none else none
  | _ => none
/-- operations that write -/
def evWrite (md : Bool) (op : Op) (ρ : Operand → AV) (h : Nat → Option Blk) (next : Nat) (orc : List Orc) : Option Res :=
  match op with
  | .store t x y => (storeA P md t (ρ x) (ρ y) h).map fun r => ⟨.junk, r.1, next, orc, r.2⟩
  | .call { callee := .builtin .append, args, argTypes } => match args.toList, argTypes.toList with
    | [x, y], [t, t'] => bif Nat.beq t t' then appendA P md t (ρ x) (ρ y) h next orc else none
    | _, _ => none
  | _ => none
inductive Cls where
  | pur
  | read
  | make
  | write
  | call
  deriving DecidableEq
def clsOf : Op → Cls
  | .convert src dst _ => match P.underlying src, P.underlying dst with
    | some (.slice _), some .string => .read
    | _, _ => .pur
  | .load .. => .read
  | .indexAddr .. => .read
  | .fieldAddr .. => .read
  | .slice .. => .read
  | .alloc _ | .box .. | .buildSlice .. | .makeSlice .. => .make
  | .store .. => .write
  | .call { callee := .builtin .len, .. } => .read
  | .call { callee := .builtin .append, .. } => .write
  | .call { callee := .value _, .. } => .call
  | _ => .pur
/-- one operation -/
def evOp (md : Bool) (call : FuncId → List AV → (Nat → Option Blk) → Nat → List Orc → Option Res) (op : Op) (ρ : Operand → AV) (h : Nat → Option Blk) (next : Nat) (orc : List Orc) : Option Res :=
  match clsOf P op with
  | .pur => (evPure P md op ρ orc).map fun r => ⟨r.v, h, next, r.orc, r.cs⟩
  | .read => (evRead P md op ρ h orc).map fun r => ⟨r.v, h, next, r.orc, r.cs⟩
  | .make => evMake P md op ρ h next orc
  | .write => evWrite P md op ρ h next orc
  | .call => match op with
    | .call { callee := .value f, args, .. } => match ρ f with
      | .clo f caps => call f (args.toList.map ρ ++ caps) h next orc
      | _ => none
    | _ => none
end
end Go.Proofs.Ytdbnfdcjibgikaa.Rx
