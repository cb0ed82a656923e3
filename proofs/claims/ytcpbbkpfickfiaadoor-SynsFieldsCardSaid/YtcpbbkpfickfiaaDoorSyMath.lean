/- What a line means, as a plain function of its signs; what an item is told as. -/
import Derived.Test.YtcpbbkpfickfiaaDoorLxLaid
set_option linter.unusedVariables false
set_option linter.unusedSimpArgs false
namespace Go.Proofs.YtcpbbkpfickfiaaDoor
namespace Sy
open Lx (Tk)
structure Vl where
  reg : Bool
  n : Int
deriving DecidableEq
structure In where
  kind : Int
  op : Int
  d : Int
  a : Vl
  b : Vl
  name : List Int
  target : Int
deriving DecidableEq
structure It where
  kind : Int
  n : Int
  secret : Bool
  name : List Int
  ins : In
deriving DecidableEq
def v0 : Vl := ⟨false, 0⟩
def i0 : In := ⟨0, 0, 0, v0, v0, [], 0⟩
def t0 : It := ⟨0, 0, false, [], i0⟩
/-- the names of ops, from 1 on -/
def ops : List (List Int) := [[97, 100, 100], [115, 117, 98], [97, 110, 100], [111, 114], [120, 111, 114], [115, 104, 108], [115, 104, 114], [109, 117, 108], [108, 116], [101, 113]]
def opF : Int → List (List Int) → List Int → Int
  | _, [], _ => 0
  | i, s :: l, t => if s = t then i else opF (i + 1) l t
def opN (t : List Int) : Int := opF 1 ops t
def regN : List Int → Int
  | [a, b] => if a = 114 ∧ 48 ≤ b ∧ b ≤ 51 then b - 48 else -1
  | _ => -1
def words : List (List Int) := [[119, 105, 100, 116, 104], [119, 105, 110, 100, 111, 119], [102, 117, 101, 108], [112, 117, 98, 108, 105, 99], [115, 101, 99, 114, 101, 116], [109, 111, 118], [108, 111, 97, 100], [115, 116, 111, 114, 101], [99, 109, 111, 118], [98, 114], [106, 109, 112], [99, 97, 108, 108], [105, 110, 100], [114, 101, 116], [102, 101, 110, 99, 101], [104, 97, 108, 116]]
def isWord (t : List Int) : Bool := words.contains t || decide (0 < opN t) || decide (0 ≤ regN t)
/-- how far a line is read, and where it went wrong first (-1: nowhere) -/
structure St where
  k : Nat
  bad : Int
def fail (p : Nat) (s : St) : St := if s.bad < 0 then ⟨s.k, p⟩ else s
section
variable (ts : List Tk) (long : Nat)
def tokAt (k : Nat) : Tk := (ts[k]?).getD ⟨0, [], 0, long⟩
def step (s : St) : St := if s.k < ts.length then ⟨s.k + 1, s.bad⟩ else s
def sign (c : Int) (s : St) : St := let t := tokAt ts long s.k; if t.kind = 3 ∧ t.text = [c] then step ts s else fail t.at_ (step ts s)
def reg (s : St) : Int × St := let t := tokAt ts long s.k; if t.kind = 1 ∧ 0 ≤ regN t.text then (regN t.text, step ts s) else (0, fail t.at_ (step ts s))
def vl (s : St) : Vl × St := let t := tokAt ts long s.k
  if t.kind = 2 then (⟨false, t.n⟩, step ts s) else if t.kind = 1 ∧ 0 ≤ regN t.text then (⟨true, regN t.text⟩, step ts s) else (v0, fail t.at_ (step ts s))
def num (s : St) : Int × St := let t := tokAt ts long s.k; (t.n, if t.kind = 2 then step ts s else fail t.at_ (step ts s))
def name (s : St) : List Int × St := let t := tokAt ts long s.k; (t.text, if t.kind = 1 ∧ isWord t.text = false then step ts s else fail t.at_ (step ts s))
def address (s : St) : (Vl × Vl) × St :=
  let s := sign ts long 91 s
  let (a, s) := vl ts long s
  let s := sign ts long 43 s
  let (b, s) := vl ts long s
  ((a, b), sign ts long 93 s)
/-- an instruction whose first word is told -/
def ins (w : List Int) (s : St) : In × St :=
  if w = [109, 111, 118] then
    let (d, s) := reg ts long s
    let s := sign ts long 44 s
    let (a, s) := vl ts long s
    (⟨1, 4, d, a, v0, [], 0⟩, s)
  else if w = [108, 111, 97, 100] then
    let (d, s) := reg ts long s
    let s := sign ts long 44 s
    let (p, s) := address ts long s
    (⟨2, 0, d, p.1, p.2, [], 0⟩, s)
  else if w = [115, 116, 111, 114, 101] then
    let (p, s) := address ts long s
    let s := sign ts long 44 s
    let (d, s) := reg ts long s
    (⟨3, 0, d, p.1, p.2, [], 0⟩, s)
  else if w = [99, 109, 111, 118] then
    let (d, s) := reg ts long s
    let s := sign ts long 44 s
    let (a, s) := vl ts long s
    let s := sign ts long 44 s
    let (b, s) := vl ts long s
    (⟨4, 0, d, a, b, [], 0⟩, s)
  else if w = [98, 114] then
    let u := tokAt ts long s.k
    let s := if u.kind = 1 ∧ opN u.text ≠ 0 then step ts s else fail u.at_ (step ts s)
    let (a, s) := vl ts long s
    let s := sign ts long 44 s
    let (b, s) := vl ts long s
    let s := sign ts long 44 s
    let (n, s) := name ts long s
    (⟨5, opN u.text, 0, a, b, n, 0⟩, s)
  else if w = [106, 109, 112] then
    let (n, s) := name ts long s
    (⟨6, 0, 0, v0, v0, n, 0⟩, s)
  else if w = [99, 97, 108, 108] then
    let (n, s) := name ts long s
    (⟨8, 0, 0, v0, v0, n, 0⟩, s)
  else if w = [105, 110, 100] then
    let (a, s) := vl ts long s
    (⟨7, 0, 0, a, v0, [], 0⟩, s)
  else if w = [114, 101, 116] then (⟨9, 0, 0, v0, v0, [], 0⟩, s)
  else if w = [102, 101, 110, 99, 101] then (⟨10, 0, 0, v0, v0, [], 0⟩, s)
  else if w = [104, 97, 108, 116] then (⟨11, 0, 0, v0, v0, [], 0⟩, s)
  else
    let (d, s) := reg ts long s
    let s := sign ts long 44 s
    let (a, s) := vl ts long s
    let s := sign ts long 44 s
    let (b, s) := vl ts long s
    (⟨1, opN w, d, a, b, [], 0⟩, s)
def declare (secret : Bool) (s : St) : It × St :=
  let t := tokAt ts long s.k
  if t.kind = 1 ∧ 0 ≤ regN t.text then (⟨4, 0, secret, [], { i0 with d := regN t.text }⟩, step ts s)
  else
    let s := if t.kind = 1 ∧ isWord t.text = false then step ts s else fail t.at_ (step ts s)
    let (n, s) := num ts long s
    (⟨5, n, secret, t.text, i0⟩, s)
def item (s : St) : It × St :=
  let t := tokAt ts long s.k
  if t.kind = 1 ∧ regN t.text < 0 then
    let s := step ts s
    if t.text = [119, 105, 100, 116, 104] then let (n, s) := num ts long s; (⟨1, n, false, [], i0⟩, s)
    else if t.text = [119, 105, 110, 100, 111, 119] then let (n, s) := num ts long s; (⟨2, n, false, [], i0⟩, s)
    else if t.text = [102, 117, 101, 108] then let (n, s) := num ts long s; (⟨3, n, false, [], i0⟩, s)
    else if t.text = [112, 117, 98, 108, 105, 99] then declare ts long false s
    else if t.text = [115, 101, 99, 114, 101, 116] then declare ts long true s
    else if isWord t.text = true then let (i, s) := ins ts long t.text s; (⟨7, 0, false, [], i⟩, s)
    else (⟨6, 0, false, t.text, i0⟩, sign ts long 58 s)
  else (t0, fail t.at_ (step ts s))
end
/-- what a line means: its item, or the place where it is wrong -/
def parseT (ts : List Tk) (long : Nat) : Except Nat It :=
  if ts = [] then .ok t0
  else
    let (i, s) := item ts long ⟨0, -1⟩
    let s := if s.bad < 0 ∧ s.k < ts.length then fail (tokAt ts long s.k).at_ s else s
    if 0 ≤ s.bad then .error s.bad.toNat else .ok i
def parse (r : List Int) : Except Nat It := match Lx.lxA 0 r with
  | .error a => .error a
  | .ok ts => parseT ts r.length
end Sy
end Go.Proofs.YtcpbbkpfickfiaaDoor
