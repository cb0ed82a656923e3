/- Merged: PgMath, PgSay, PgTold, PgDoc. -/
import Derived.Test.YtmghklokbmdenaaDoorMgSy
set_option linter.unusedVariables false
set_option linter.unusedSimpArgs false
namespace Go.Proofs.YtmghklokbmdenaaDoor
section
namespace Pg
open Sy (In It Vl)
structure Mm where
  name : List Int
  secret : Bool
  n : Int
deriving DecidableEq
structure Lb where
  name : List Int
  at_ : Int
deriving DecidableEq
structure Pr where
  w : Int
  win : Int
  fuel : Int
  regs : List Int
  mems : List Mm
  labels : List Lb
  ins : List In
deriving DecidableEq
def p0 : Pr := ⟨0, 0, 0, [0, 0, 0, 0], [], [], []⟩
/-- what the lines so far have told -/
structure Rs where
  p : Pr
  begun : Bool
  at_ : List Nat
deriving DecidableEq
def r0 : Rs := ⟨p0, false, []⟩
def cells : List Mm → Int
  | [] => 0
  | m :: l => m.n + cells l
def labelOf (t : List Int) : List Lb → Option Int
  | [] => none
  | l :: r => if l.name = t then some l.at_ else labelOf t r
def isMem (t : List Int) (l : List Mm) : Bool := l.any (fun m => decide (m.name = t))
def known (p : Pr) (t : List Int) : Bool := isMem t p.mems || (labelOf t p.labels).isSome
def size (w : Int) : Int := if 1 ≤ w ∧ w ≤ 16 then 2 ^ w.toNat else 0
def goes (i : In) : Bool := decide (i.kind = 5) || decide (i.kind = 6) || decide (i.kind = 8)
/-- a line's item behind the lines ahead of it -/
def add (r : Rs) (i : It) (line : Nat) : Option Rs :=
  if i.kind = 1 then (if r.begun = false ∧ r.p.w = 0 ∧ 1 ≤ i.n ∧ i.n ≤ 16 then some { r with p := { r.p with w := i.n } } else none)
  else if i.kind = 2 then (if r.begun = false ∧ r.p.win = 0 ∧ 1 ≤ i.n ∧ i.n ≤ 6 then some { r with p := { r.p with win := i.n } } else none)
  else if i.kind = 3 then (if r.begun = false ∧ r.p.fuel = 0 ∧ 1 ≤ i.n ∧ i.n ≤ 1000 then some { r with p := { r.p with fuel := i.n } } else none)
  else if i.kind = 4 then (if r.begun = false ∧ r.p.regs.getD i.ins.d.toNat 0 = 0 then some { r with p := { r.p with regs := r.p.regs.set i.ins.d.toNat (if i.secret then 2 else 1) } } else none)
  else if i.kind = 5 then (if r.begun = false ∧ 1 ≤ i.n ∧ cells r.p.mems + i.n ≤ 16 ∧ cells r.p.mems + i.n ≤ size r.p.w ∧ known r.p i.name = false
    then some { r with p := { r.p with mems := r.p.mems ++ [⟨i.name, i.secret, i.n⟩] } } else none)
  else if i.kind = 6 then (if known r.p i.name = false then some { r with p := { r.p with labels := r.p.labels ++ [⟨i.name, (r.p.ins.length : Int)⟩] }, begun := true } else none)
  else if i.kind = 7 then (if r.p.ins.length < 32 then some { p := { r.p with ins := r.p.ins ++ [i.ins] }, begun := true, at_ := r.at_ ++ [line] } else none)
  else some r
/-- a text's lines -/
def lines : List UInt8 → List (List UInt8)
  | [] => []
  | b :: l => if b = 10 then [] :: lines l else match lines l with
    | [] => [[b]]
    | x :: r => (b :: x) :: r
def item (l : List UInt8) : Except Nat It := Sy.parse (Lx.runes ⟨l.toArray⟩)
def run : Rs → Nat → List (List UInt8) → Except (Nat × Nat) Rs
  | r, _, [] => .ok r
  | r, k, l :: ls => match item l with
    | .error m => .error (k, m)
    | .ok i => match add r i k with
      | none => .error (k, 0)
      | some r' => run r' (k + 1) ls
/-- where an instruction goes; the line of the first one that goes to no label -/
def aim (ls : List Lb) : List In → List Nat → Except Nat (List In)
  | i :: is, k :: ks => if goes i then (match labelOf i.name ls with
      | none => .error k
      | some t => match aim ls is ks with
        | .error e => .error e
        | .ok r => .ok ({ i with name := [], target := t } :: r))
    else match aim ls is ks with
      | .error e => .error e
      | .ok r => .ok (i :: r)
  | _, _ => .ok []
def fill (p : Pr) : Pr := { p with win := if p.win = 0 then 1 else p.win, fuel := if p.fuel = 0 then 50 else p.fuel }
def finish (r : Rs) (n : Nat) : Except (Nat × Nat) Pr :=
  if r.p.w = 0 ∨ r.p.ins = [] then .error (n, 0)
  else match aim r.p.labels r.p.ins r.at_ with
    | .error k => .error (k, 0)
    | .ok is => .ok (fill { r.p with ins := is })
def parse (s : List UInt8) : Except (Nat × Nat) Pr := match run r0 0 (lines s) with
  | .error e => .error e
  | .ok r => finish r (lines s).length
/-- the items that a program is told as -/
def heads (p : Pr) : List It := [⟨1, p.w, false, [], Sy.i0⟩, ⟨2, p.win, false, [], Sy.i0⟩, ⟨3, p.fuel, false, [], Sy.i0⟩]
def regs : Int → List Int → List It
  | _, [] => []
  | d, r :: l => (if r ≠ 0 then [⟨4, 0, decide (r = 2), [], { Sy.i0 with d := d }⟩] else []) ++ regs (d + 1) l
def memI (m : Mm) : It := ⟨5, m.n, m.secret, m.name, Sy.i0⟩
def labI (l : Lb) : It := ⟨6, 0, false, l.name, Sy.i0⟩
def labelAt (a : Int) : List Lb → List Int
  | [] => []
  | l :: r => if l.at_ = a then l.name else labelAt a r
def named (ls : List Lb) (i : In) : In := if goes i then { i with name := labelAt i.target ls, target := 0 } else i
def insI (ls : List Lb) (i : In) : It := ⟨7, 0, false, [], named ls i⟩
/-- each instruction behind the labels that stand at it, and the labels behind them all -/
def body (all : List Lb) : Int → List In → List It
  | k, [] => (all.filter (fun l => decide (l.at_ = k))).map labI
  | k, i :: is => (all.filter (fun l => decide (l.at_ = k))).map labI ++ insI all i :: body all (k + 1) is
def items (p : Pr) : List It := heads p ++ regs 0 p.regs ++ p.mems.map memI ++ body p.labels 0 p.ins
def lineT (i : It) : List Int := Sy.text i ++ [10]
def text (p : Pr) : List Int := (items p).flatMap lineT
def bytes (t : List Int) : List UInt8 := t.map fun n => UInt8.ofNat n.toNat
def print (p : Pr) : Option (List Int) := match parse (bytes (text p)) with
  | .ok q => if q = p then some (text p) else none
  | .error _ => none
end Pg
end
end Go.Proofs.YtmghklokbmdenaaDoor
namespace Go.Proofs.YtmghklokbmdenaaDoor
section
namespace Pg
open Sy (In It Vl)
/-- what a line of its own is read as it was, and has no line feed -/
def TextOk : Prop := ∀ i, Sy.Ok i → item (bytes (Sy.text i)) = .ok i ∧ ∀ b ∈ bytes (Sy.text i), b ≠ 10
theorem lines_app : ∀ (x l : List UInt8), (∀ b ∈ x, b ≠ 10) → lines (x ++ 10 :: l) = x :: lines l
  | [], l, _ => by simp [lines]
  | b :: x, l, h => by
    have hb : b ≠ 10 := h b (by simp)
    have := lines_app x l (fun c hc => h c (by simp [hc]))
    rw [List.cons_append, lines, if_neg hb, this]
theorem lines_end : ∀ (x : List UInt8), (∀ b ∈ x, b ≠ 10) → x ≠ [] → lines x = [x]
  | [], _, h => absurd rfl h
  | [b], h, _ => by
    have hb : b ≠ 10 := h b (by simp)
    simp [lines, hb]
  | b :: c :: x, h, _ => by
    have hb : b ≠ 10 := h b (by simp)
    have := lines_end (c :: x) (fun y hy => h y (by simp [hy])) (by simp)
    rw [lines, if_neg hb, this]
theorem lines_all (L : List (List UInt8)) (h : ∀ x ∈ L, ∀ b ∈ x, b ≠ 10) : lines (L.flatMap (fun x => x ++ [10])) = L := by
  induction L with
  | nil => rfl
  | cons x L ih =>
    rw [List.flatMap_cons, List.append_assoc, List.singleton_append, lines_app x _ (h x (by simp)), ih (fun y hy => h y (by simp [hy]))]
theorem bytes_app (a b : List Int) : bytes (a ++ b) = bytes a ++ bytes b := by simp [bytes]
theorem bytes_text (is : List It) : bytes (is.flatMap lineT) = (is.map (fun i => bytes (Sy.text i))).flatMap (fun x => x ++ [10]) := by
  induction is with
  | nil => rfl
  | cons i is ih => rw [List.flatMap_cons, bytes_app, ih, List.map_cons, List.flatMap_cons, lineT, bytes_app]; rfl
/-- items one by one -/
def adds : Rs → Nat → List It → Option Rs
  | r, _, [] => some r
  | r, k, i :: l => match add r i k with
    | none => none
    | some r' => adds r' (k + 1) l
theorem adds_app (l m : List It) : ∀ (r : Rs) (k : Nat) (r' : Rs), adds r k l = some r' → adds r k (l ++ m) = adds r' (k + l.length) m := by
  induction l with
  | nil => intro r k r' h; injection h with h; subst h; rfl
  | cons i l ih =>
    intro r k r' h
    rw [List.cons_append]
    unfold adds at h
    cases hA : add r i k with
    | none => rw [hA] at h; cases h
    | some q =>
      rw [hA] at h
      have e : adds r k (i :: (l ++ m)) = adds q (k + 1) (l ++ m) := by rw [adds, hA]
      rw [e, ih q (k + 1) r' h, List.length_cons, Nat.add_assoc, Nat.add_comm 1]
theorem run_items (hT : TextOk) (is : List It) (ho : ∀ i ∈ is, Sy.Ok i) : ∀ (r : Rs) (k : Nat) (r' : Rs), adds r k is = some r' → run r k (is.map fun i => bytes (Sy.text i)) = .ok r' := by
  induction is with
  | nil => intro r k r' h; injection h with h; subst h; rfl
  | cons i l ih =>
    intro r k r' h
    unfold adds at h
    cases hA : add r i k with
    | none => rw [hA] at h; cases h
    | some q =>
      rw [hA] at h
      rw [List.map_cons, run, (hT i (ho i (by simp))).1]
      simp only [hA]
      exact ih (fun j hj => ho j (by simp [hj])) q (k + 1) r' h
/-- a well-formed program -/
structure WF (p : Pr) : Prop where
  w : 1 ≤ p.w ∧ p.w ≤ 16
  win : 1 ≤ p.win ∧ p.win ≤ 6
  fuel : 1 ≤ p.fuel ∧ p.fuel ≤ 1000
  r4 : p.regs.length = 4
  regs : ∀ r ∈ p.regs, r = 0 ∨ r = 1 ∨ r = 2
  mems : ∀ m ∈ p.mems, Sy.okName m.name ∧ 1 ≤ m.n
  cells : cells p.mems ≤ 16 ∧ cells p.mems ≤ size p.w
  labels : ∀ l ∈ p.labels, Sy.okName l.name ∧ 0 ≤ l.at_ ∧ l.at_ ≤ p.ins.length
  sorted : p.labels.Pairwise (fun a b => a.at_ ≤ b.at_)
  names : (p.mems.map (·.name) ++ p.labels.map (·.name)).Nodup
  ins1 : 1 ≤ p.ins.length ∧ p.ins.length ≤ 32
  ins : ∀ i ∈ p.ins, Sy.OkI (named p.labels i) ∧ (goes i = true → i.name = [] ∧ ∃ l ∈ p.labels, l.at_ = i.target)
/-- what holds between two lines -/
structure Inv (r : Rs) : Prop where
  w : 0 ≤ r.p.w ∧ r.p.w ≤ 16
  win : 0 ≤ r.p.win ∧ r.p.win ≤ 6
  fuel : 0 ≤ r.p.fuel ∧ r.p.fuel ≤ 1000
  r4 : r.p.regs.length = 4
  regs : ∀ x ∈ r.p.regs, x = 0 ∨ x = 1 ∨ x = 2
  mems : ∀ m ∈ r.p.mems, Sy.okName m.name ∧ 1 ≤ m.n
  cells0 : 0 ≤ cells r.p.mems
  cells : cells r.p.mems ≤ 16 ∧ cells r.p.mems ≤ size r.p.w
  labels : ∀ l ∈ r.p.labels, Sy.okName l.name ∧ 0 ≤ l.at_ ∧ l.at_ ≤ r.p.ins.length
  sorted : r.p.labels.Pairwise (fun a b => a.at_ ≤ b.at_)
  names : (r.p.mems.map (·.name) ++ r.p.labels.map (·.name)).Nodup
  few : r.p.ins.length ≤ 32
  ins : ∀ i ∈ r.p.ins, Sy.OkI i
  at_ : r.at_.length = r.p.ins.length
theorem inv0 : Inv r0 := by
  exact ⟨by decide, by decide, by decide, rfl, by decide, (fun m hm => by cases hm), by decide, by decide, (fun m hm => by cases hm), List.Pairwise.nil, by decide, by decide, (fun m hm => by cases hm), rfl⟩
theorem labelOf_none {t : List Int} : ∀ {l : List Lb}, labelOf t l = none ↔ t ∉ l.map (·.name)
  | [] => by simp [labelOf]
  | a :: l => by
    unfold labelOf
    by_cases h : a.name = t
    · simp [h]
    · rw [if_neg h, labelOf_none (l := l)]
      simp only [List.map_cons, List.mem_cons, not_or]
      exact ⟨fun h2 => ⟨fun e => h e.symm, h2⟩, fun h2 => h2.2⟩
theorem isMem_iff {t : List Int} {l : List Mm} : isMem t l = true ↔ t ∈ l.map (·.name) := by
  simp only [isMem, List.any_eq_true, decide_eq_true_eq, List.mem_map]
theorem known_false {p : Pr} {t : List Int} (h : known p t = false) : t ∉ p.mems.map (·.name) ∧ t ∉ p.labels.map (·.name) := by
  simp only [known, Bool.or_eq_false_iff] at h
  refine ⟨fun e => ?_, ?_⟩
  · rw [isMem_iff.2 e] at h; exact absurd h.1 (by simp)
  · have := h.2
    rw [Option.isSome_eq_false_iff] at this
    exact labelOf_none.1 (by simpa using this)
theorem known_of {p : Pr} {t : List Int} (h1 : t ∉ p.mems.map (·.name)) (h2 : t ∉ p.labels.map (·.name)) : known p t = false := by
  simp only [known, Bool.or_eq_false_iff]
  refine ⟨?_, by rw [labelOf_none.2 h2]; rfl⟩
  cases hm : isMem t p.mems with
  | false => rfl
  | true => exact absurd (isMem_iff.1 hm) h1
theorem cells_app (a b : List Mm) : cells (a ++ b) = cells a + cells b := by
  induction a with
  | nil => simp [cells]
  | cons m a ih => rw [List.cons_append, cells, cells, ih]; omega
theorem size_pos (w : Int) : 0 ≤ size w := by
  unfold size
  split
  · exact Int.le_of_lt (Int.pow_pos (by decide))
  · decide
theorem names_mid {a b : List (List Int)} {t : List Int} (h : (a ++ b).Nodup) (h1 : t ∉ a) (h2 : t ∉ b) : (a ++ [t] ++ b).Nodup := by
  rw [List.append_assoc, List.nodup_append] at *
  obtain ⟨ha, hb, hab⟩ := h
  refine ⟨ha, ?_, ?_⟩
  · rw [List.singleton_append, List.nodup_cons]; exact ⟨h2, hb⟩
  · intro x hx y hy
    rw [List.singleton_append] at hy
    rcases List.mem_cons.1 hy with rfl | hy
    · intro e; subst e; exact h1 hx
    · exact hab x hx y hy
theorem names_end {a b : List (List Int)} {t : List Int} (h : (a ++ b).Nodup) (h1 : t ∉ a) (h2 : t ∉ b) : (a ++ (b ++ [t])).Nodup := by
  rw [← List.append_assoc, List.nodup_append]
  refine ⟨h, by simp, fun x hx y hy => ?_⟩
  rw [List.mem_singleton] at hy
  subst hy
  intro e
  subst e
  rcases List.mem_append.1 hx with hx | hx
  · exact h1 hx
  · exact h2 hx
theorem set_mem {l : List Int} {k : Nat} {v x : Int} (h : x ∈ l.set k v) : x ∈ l ∨ x = v := by
  rcases List.mem_or_eq_of_mem_set h with h | h
  · exact .inl h
  · exact .inr h
theorem add_inv {r r' : Rs} {i : It} {k : Nat} (h : Inv r) (ho : Sy.Ok i) (ha : add r i k = some r') : Inv r' := by
  unfold add at ha
  split at ha
  · split at ha
    · rename_i hc
      injection ha with ha; subst ha
      have h0 : cells r.p.mems = 0 := by
        have := h.cells.2
        rw [hc.2.1, show size 0 = 0 from rfl] at this
        have := h.cells0
        omega
      exact ⟨⟨by show 0 ≤ i.n; omega, hc.2.2.2⟩, h.win, h.fuel, h.r4, h.regs, h.mems, h.cells0, ⟨h.cells.1, by show cells r.p.mems ≤ size i.n; rw [h0]; exact size_pos _⟩, h.labels, h.sorted, h.names, h.few, h.ins, h.at_⟩
    · cases ha
  split at ha
  · split at ha
    · rename_i hc
      injection ha with ha; subst ha
      exact ⟨h.w, ⟨by show 0 ≤ i.n; omega, hc.2.2.2⟩, h.fuel, h.r4, h.regs, h.mems, h.cells0, h.cells, h.labels, h.sorted, h.names, h.few, h.ins, h.at_⟩
    · cases ha
  split at ha
  · split at ha
    · rename_i hc
      injection ha with ha; subst ha
      exact ⟨h.w, h.win, ⟨by show 0 ≤ i.n; omega, hc.2.2.2⟩, h.r4, h.regs, h.mems, h.cells0, h.cells, h.labels, h.sorted, h.names, h.few, h.ins, h.at_⟩
    · cases ha
  split at ha
  · split at ha
    · rename_i hc
      injection ha with ha; subst ha
      refine ⟨h.w, h.win, h.fuel, by show (r.p.regs.set _ _).length = 4; rw [List.length_set]; exact h.r4, ?_, h.mems, h.cells0, h.cells, h.labels, h.sorted, h.names, h.few, h.ins, h.at_⟩
      intro x hx
      rcases set_mem hx with hx | rfl
      · exact h.regs x hx
      · split <;> simp
    · cases ha
  split at ha
  · rename_i k1 k2 k3 k4 k5
    split at ha
    · rename_i hc
      injection ha with ha; subst ha
      have hn := known_false hc.2.2.2.2
      have hnm : Sy.okName i.name := by
        cases ho with
        | none => simp [Sy.t0] at k5
        | num a b c => simp at k1 k2 k3; omega
        | reg a => simp at k4
        | mem a b => exact a
        | label a => exact a
        | ins a => simp at k5
      refine ⟨h.w, h.win, h.fuel, h.r4, h.regs, ?_, ?_, ?_, h.labels, h.sorted, ?_, h.few, h.ins, h.at_⟩
      · intro m hm
        rcases List.mem_append.1 hm with hm | hm
        · exact h.mems m hm
        · rw [List.mem_singleton] at hm; subst hm; exact ⟨hnm, hc.2.1⟩
      · show 0 ≤ cells (_ ++ _); rw [cells_app]; simp only [cells]; have := h.cells0; omega
      · show cells (_ ++ _) ≤ 16 ∧ cells (_ ++ _) ≤ size r.p.w
        rw [cells_app]; simp only [cells]
        exact ⟨by omega, by omega⟩
      · show ((r.p.mems ++ [_]).map _ ++ _).Nodup
        rw [List.map_append]
        exact names_mid h.names hn.1 hn.2
    · cases ha
  split at ha
  · rename_i k1 k2 k3 k4 k5 k6
    split at ha
    · rename_i hc
      injection ha with ha; subst ha
      have hn := known_false hc
      have hnm : Sy.okName i.name := by
        cases ho with
        | none => simp [Sy.t0] at k6
        | num a b c => simp at k1 k2 k3; omega
        | reg a => simp at k4
        | mem a b => exact a
        | label a => exact a
        | ins a => simp at k6
      refine ⟨h.w, h.win, h.fuel, h.r4, h.regs, h.mems, h.cells0, h.cells, ?_, ?_, ?_, h.few, h.ins, h.at_⟩
      · intro m hm
        rcases List.mem_append.1 hm with hm | hm
        · exact h.labels m hm
        · rw [List.mem_singleton] at hm; subst hm
          exact ⟨hnm, by show (0 : Int) ≤ ((r.p.ins.length : Nat) : Int); omega, by show ((r.p.ins.length : Nat) : Int) ≤ ((r.p.ins.length : Nat) : Int); omega⟩
      · show (r.p.labels ++ [_]).Pairwise _
        rw [List.pairwise_append]
        refine ⟨h.sorted, by simp, fun a ha b hb => ?_⟩
        rw [List.mem_singleton] at hb; subst hb
        exact (h.labels a ha).2.2
      · show (_ ++ (r.p.labels ++ [_]).map _).Nodup
        rw [List.map_append]
        exact names_end h.names hn.1 hn.2
    · cases ha
  split at ha
  · rename_i k1 k2 k3 k4 k5 k6 k7
    split at ha
    · rename_i hc
      injection ha with ha; subst ha
      have hI : Sy.OkI i.ins := by
        cases ho with
        | none => simp [Sy.t0] at k7
        | num a b c => simp at k1 k2 k3; omega
        | reg a => simp at k4
        | mem a b => simp at k5
        | label a => simp at k6
        | ins a => exact a
      refine ⟨h.w, h.win, h.fuel, h.r4, h.regs, h.mems, h.cells0, h.cells, ?_, h.sorted, h.names, ?_, ?_, ?_⟩
      · intro l hl
        have := h.labels l hl
        refine ⟨this.1, this.2.1, ?_⟩
        show l.at_ ≤ (((r.p.ins ++ [i.ins]).length : Nat) : Int)
        rw [List.length_append]; simp; omega
      · show (r.p.ins ++ [i.ins]).length ≤ 32
        rw [List.length_append]; simp; omega
      · intro j hj
        rcases List.mem_append.1 hj with hj | hj
        · exact h.ins j hj
        · rw [List.mem_singleton] at hj; subst hj; exact hI
      · show (r.at_ ++ [k]).length = (r.p.ins ++ [i.ins]).length
        rw [List.length_append, List.length_append, h.at_]; rfl
    · cases ha
  · injection ha with ha; subst ha; exact h
theorem item_ok {l : List UInt8} {i : It} (h : item l = .ok i) : Sy.Ok i := Sy.parse_ok h
theorem run_inv : ∀ (ls : List (List UInt8)) (r : Rs) (k : Nat) (r' : Rs), Inv r → run r k ls = .ok r' → Inv r'
  | [], r, k, r', h, e => by injection e with e; subst e; exact h
  | l :: ls, r, k, r', h, e => by
    unfold run at e
    cases hi : item l with
    | error m => rw [hi] at e; cases e
    | ok i =>
      rw [hi] at e
      simp only at e
      cases ha : add r i k with
      | none => rw [ha] at e; cases e
      | some q =>
        rw [ha] at e
        exact run_inv ls q (k + 1) r' (add_inv h (item_ok hi) ha) e
theorem labelOf_some {t : List Int} : ∀ {l : List Lb} {a : Int}, labelOf t l = some a → ∃ x ∈ l, x.name = t ∧ x.at_ = a
  | [], a, h => by cases h
  | y :: l, a, h => by
    unfold labelOf at h
    split at h
    · rename_i e; injection h with h; exact ⟨y, by simp, e, h⟩
    · obtain ⟨x, hx, h1, h2⟩ := labelOf_some h
      exact ⟨x, by simp [hx], h1, h2⟩
theorem labelAt_ok {a : Int} : ∀ {l : List Lb}, (∃ x ∈ l, x.at_ = a) → ∃ x ∈ l, x.at_ = a ∧ labelAt a l = x.name
  | [], h => by obtain ⟨x, hx, _⟩ := h; cases hx
  | y :: l, h => by
    unfold labelAt
    by_cases e : y.at_ = a
    · rw [if_pos e]; exact ⟨y, by simp, e, rfl⟩
    · rw [if_neg e]
      obtain ⟨x, hx, hxa⟩ := h
      rcases List.mem_cons.1 hx with rfl | hx
      · exact absurd hxa e
      · obtain ⟨z, hz, h1, h2⟩ := labelAt_ok ⟨x, hx, hxa⟩
        exact ⟨z, by simp [hz], h1, h2⟩
theorem okI_named {i : In} (h : Sy.OkI i) (hg : goes i = true) {n : List Int} (hn : Sy.okName n) : Sy.OkI { i with name := n, target := 0 } := by
  cases h with
  | br a b c d => exact .br a b c hn
  | jmp a => exact .jmp hn
  | call a => exact .call hn
  | _ => simp [goes] at hg
theorem okI_plain {i : In} (h : Sy.OkI i) (hg : ¬ goes i = true) : i.name = [] ∧ i.target = 0 := by
  cases h with
  | br a b c d => simp [goes] at hg
  | jmp a => simp [goes] at hg
  | call a => simp [goes] at hg
  | _ => exact ⟨rfl, rfl⟩
theorem okI_goes {i : In} (h : Sy.OkI i) (hg : goes i = true) : Sy.okName i.name ∧ i.target = 0 := by
  cases h with
  | br a b c d => exact ⟨d, rfl⟩
  | jmp a => exact ⟨a, rfl⟩
  | call a => exact ⟨a, rfl⟩
  | _ => simp [goes] at hg
theorem aim_ok {ls : List Lb} (hl : ∀ l ∈ ls, Sy.okName l.name) : ∀ (is : List In) (ks : List Nat) (js : List In), ks.length = is.length → (∀ i ∈ is, Sy.OkI i) → aim ls is ks = .ok js →
    js.length = is.length ∧ ∀ j ∈ js, Sy.OkI (named ls j) ∧ (goes j = true → j.name = [] ∧ ∃ l ∈ ls, l.at_ = j.target)
  | [], ks, js, _, _, h => by
    have : js = [] := by cases ks <;> (injection h with h; exact h.symm)
    subst this
    exact ⟨rfl, fun j hj => by cases hj⟩
  | i :: is, [], js, hk, _, h => by simp at hk
  | i :: is, k :: ks, js, hk, ho, h => by
    have hi := ho i (by simp)
    unfold aim at h
    split at h
    · rename_i hg
      split at h
      · cases h
      · rename_i t ht
        split at h
        · cases h
        · rename_i r hr
          injection h with h
          subst h
          obtain ⟨e1, e2⟩ := aim_ok hl is ks r (by simpa using hk) (fun j hj => ho j (by simp [hj])) hr
          obtain ⟨x, hx, hxn, hxa⟩ := labelOf_some ht
          refine ⟨by simp [e1], fun j hj => ?_⟩
          rcases List.mem_cons.1 hj with rfl | hj
          · obtain ⟨z, hz, z1, z2⟩ := labelAt_ok ⟨x, hx, hxa⟩
            have hg' : goes { i with name := [], target := t } = true := hg
            refine ⟨?_, fun _ => ⟨rfl, x, hx, hxa⟩⟩
            rw [named, if_pos hg']
            show Sy.OkI { i with name := labelAt t ls, target := 0 }
            rw [z2]
            exact okI_named hi hg (hl z hz)
          · exact e2 j hj
    · rename_i hg
      split at h
      · cases h
      · rename_i r hr
        injection h with h
        subst h
        obtain ⟨e1, e2⟩ := aim_ok hl is ks r (by simpa using hk) (fun j hj => ho j (by simp [hj])) hr
        refine ⟨by simp [e1], fun j hj => ?_⟩
        rcases List.mem_cons.1 hj with rfl | hj
        · exact ⟨by rw [named, if_neg hg]; exact hi, fun h => absurd h hg⟩
        · exact e2 j hj
/-- **what a text tells is well formed** -/
theorem parse_wf {s : List UInt8} {p : Pr} (h : parse s = .ok p) : WF p := by
  unfold parse at h
  cases hr : run r0 0 (lines s) with
  | error e => rw [hr] at h; cases h
  | ok r =>
    rw [hr] at h
    simp only at h
    have I := run_inv _ _ _ _ inv0 hr
    unfold finish at h
    split at h
    · cases h
    · rename_i hc
      split at h
      · cases h
      · rename_i is ha
        injection h with h
        subst h
        obtain ⟨e1, e2⟩ := aim_ok (fun l hl => (I.labels l hl).1) _ _ _ I.at_ I.ins ha
        have h1 : r.p.w ≠ 0 := fun e => hc (.inl e)
        have h2 : r.p.ins ≠ [] := fun e => hc (.inr e)
        have h3 : 1 ≤ r.p.ins.length := by
          rcases Nat.eq_zero_or_pos r.p.ins.length with h0 | h0
          · exact absurd (List.eq_nil_of_length_eq_zero h0) h2
          · exact h0
        have hw := I.w; have hwin := I.win; have hfu := I.fuel
        refine ⟨⟨by show 1 ≤ r.p.w; omega, I.w.2⟩, ?_, ?_, I.r4, I.regs, I.mems, I.cells, fun l hl => ?_, I.sorted, I.names, ⟨by show 1 ≤ is.length; omega, by show is.length ≤ 32; have := I.few; omega⟩, e2⟩
        · show 1 ≤ (if r.p.win = 0 then 1 else r.p.win) ∧ (if r.p.win = 0 then 1 else r.p.win) ≤ 6
          split <;> omega
        · show 1 ≤ (if r.p.fuel = 0 then 50 else r.p.fuel) ∧ (if r.p.fuel = 0 then 50 else r.p.fuel) ≤ 1000
          split <;> omega
        · have := I.labels l hl
          refine ⟨this.1, this.2.1, ?_⟩
          show l.at_ ≤ ((is.length : Nat) : Int)
          rw [e1]; exact this.2.2
end Pg
end
end Go.Proofs.YtmghklokbmdenaaDoor
namespace Go.Proofs.YtmghklokbmdenaaDoor
section
namespace Pg
open Sy (In It Vl)
theorem size_ge {w : Int} (h : 1 ≤ w ∧ w ≤ 16) : 2 ≤ size w := by
  unfold size
  rw [if_pos h]
  obtain ⟨h1, h2⟩ := h
  have : w.toNat = 1 + (w.toNat - 1) := by omega
  rw [this, Int.pow_add]
  have := Int.pow_pos (n := (2 : Int)) (m := w.toNat - 1) (by decide)
  omega
theorem add_reg (q : Pr) (pre : List Int) (n : Nat) (v : Int) (d : Int) (hd : d = (pre.length : Int)) (hv : v = 1 ∨ v = 2) (k : Nat) (ats : List Nat) :
    add ⟨{ q with regs := pre ++ List.replicate (n + 1) 0 }, false, ats⟩ ⟨4, 0, decide (v = 2), [], { Sy.i0 with d := d }⟩ k = some ⟨{ q with regs := (pre ++ [v]) ++ List.replicate n 0 }, false, ats⟩ := by
  subst hd
  unfold add
  have e : (if decide (v = 2) = true then (2 : Int) else 1) = v := by rcases hv with rfl | rfl <;> rfl
  have s1 : (pre ++ List.replicate (n + 1) (0 : Int)).set pre.length v = (pre ++ [v]) ++ List.replicate n 0 := by
    rw [List.set_append_right _ _ (Nat.le_refl _), Nat.sub_self, List.replicate_succ, List.set_cons_zero, List.append_assoc, List.singleton_append]
  have s2 : (pre ++ List.replicate (n + 1) (0 : Int)).getD pre.length 0 = 0 := by
    rw [List.getD_eq_getElem?_getD, List.getElem?_append_right (Nat.le_refl _), Nat.sub_self, List.replicate_succ]
    rfl
  simp only [Int.toNat_natCast]
  rw [if_neg (by decide), if_neg (by decide), if_neg (by decide), if_pos trivial, if_pos ⟨trivial, s2⟩]
  rw [e, s1]
theorem adds_regs : ∀ (l : List Int) (q : Pr) (pre : List Int) (d : Int) (k : Nat) (ats : List Nat), d = (pre.length : Int) → (∀ v ∈ l, v = 0 ∨ v = 1 ∨ v = 2) →
    adds ⟨{ q with regs := pre ++ List.replicate l.length 0 }, false, ats⟩ k (regs d l) = some ⟨{ q with regs := pre ++ l }, false, ats⟩
  | [], q, pre, d, k, ats, hd, h => by simp [regs, adds]
  | v :: l, q, pre, d, k, ats, hd, h => by
    have hv := h v (by simp)
    have hr : ∀ v ∈ l, v = 0 ∨ v = 1 ∨ v = 2 := fun x hx => h x (by simp [hx])
    have hd' : d + 1 = ((pre ++ [v]).length : Int) := by rw [List.length_append, hd]; simp
    have ih := fun k => adds_regs l q (pre ++ [v]) (d + 1) k ats hd' hr
    have e2 : pre ++ [v] ++ l = pre ++ (v :: l) := by simp
    unfold regs
    by_cases h0 : v = 0
    · subst h0
      rw [if_neg (by simp), List.nil_append]
      have e1 : pre ++ List.replicate (l.length + 1) (0 : Int) = (pre ++ [0]) ++ List.replicate l.length 0 := by rw [List.replicate_succ, List.append_assoc]; rfl
      rw [List.length_cons, e1, ih k, e2]
    · rw [if_pos h0, List.singleton_append, adds, List.length_cons, add_reg q pre l.length v d hd (by rcases hv with h | h | h <;> simp_all) k ats]
      simp only
      rw [ih (k + 1), e2]
theorem adds_mems (w : Int) : ∀ (l : List Mm) (q : Pr) (pre : List Mm) (k : Nat) (ats : List Nat), q.w = w → q.labels = [] → (∀ m ∈ l, 1 ≤ m.n) → cells (pre ++ l) ≤ 16 → cells (pre ++ l) ≤ size w → ((pre ++ l).map (·.name)).Nodup →
    adds ⟨{ q with mems := pre }, false, ats⟩ k (l.map memI) = some ⟨{ q with mems := pre ++ l }, false, ats⟩
  | [], q, pre, k, ats, hw, hl, h1, h2, h3, h4 => by simp [adds]
  | m :: l, q, pre, k, ats, hw, hl, h1, h2, h3, h4 => by
    have hr : ∀ x ∈ l, 1 ≤ x.n := fun x hx => h1 x (by simp [hx])
    have hp : 0 ≤ cells l := by
      clear h1 h2 h3 h4
      revert hr
      induction l with
      | nil => intro _; simp [cells]
      | cons a l ih => intro hr; have := ih (fun x hx => hr x (by simp [hx])); have := hr a (by simp); simp only [cells]; omega
    have hc : cells (pre ++ m :: l) = cells pre + m.n + cells l := by rw [cells_app]; simp only [cells]; omega
    have e2 : pre ++ [m] ++ l = pre ++ m :: l := by simp
    have hk : known { q with mems := pre } m.name = false := by
      refine known_of ?_ (by show m.name ∉ q.labels.map _; rw [hl]; simp)
      intro hm
      rw [List.map_append, List.map_cons, List.nodup_append] at h4
      exact h4.2.2 _ hm _ (by simp) rfl
    have hadd : add ⟨{ q with mems := pre }, false, ats⟩ (memI m) k = some ⟨{ q with mems := pre ++ [m] }, false, ats⟩ := by
      unfold add memI
      simp only
      rw [if_neg (by decide), if_neg (by decide), if_neg (by decide), if_neg (by decide), if_pos trivial, if_pos ⟨trivial, h1 m (by simp), by omega, by rw [hw]; omega, hk⟩]
    rw [List.map_cons, adds, hadd]
    simp only
    rw [adds_mems w l q (pre ++ [m]) (k + 1) ats hw hl hr (by rw [e2]; exact h2) (by rw [e2]; exact h3) (by rw [e2]; exact h4), e2]
/-- labels of one place, behind those ahead of it -/
theorem adds_labels (n : Nat) : ∀ (l : List Lb) (q : Pr) (pre : List Lb) (k : Nat) (b : Bool) (ats : List Nat), q.ins.length = n → (∀ x ∈ l, x.at_ = (n : Int)) → (q.mems.map (·.name) ++ (pre ++ l).map (·.name)).Nodup →
    ∃ b', adds ⟨{ q with labels := pre }, b, ats⟩ k (l.map labI) = some ⟨{ q with labels := pre ++ l }, b', ats⟩
  | [], q, pre, k, b, ats, hn, h1, h4 => ⟨b, by simp [adds]⟩
  | m :: l, q, pre, k, b, ats, hn, h1, h4 => by
    have e2 : pre ++ [m] ++ l = pre ++ m :: l := by simp
    have hk : known { q with labels := pre } m.name = false := by
      rw [List.map_append, List.map_cons, List.nodup_append, List.nodup_append] at h4
      refine known_of (fun hm => ?_) (fun hm => ?_)
      · exact h4.2.2 _ hm m.name (by simp) rfl
      · exact h4.2.1.2.2 _ hm m.name (by simp) rfl
    have hm : m = ⟨m.name, (q.ins.length : Int)⟩ := by
      have := h1 m (by simp)
      cases m
      simp only at this
      rw [hn, ← this]
    have hadd : add ⟨{ q with labels := pre }, b, ats⟩ (labI m) k = some ⟨{ q with labels := pre ++ [m] }, true, ats⟩ := by
      unfold add labI
      simp only
      rw [if_neg (by decide), if_neg (by decide), if_neg (by decide), if_neg (by decide), if_neg (by decide), if_pos trivial, if_pos hk, ← hm]
    obtain ⟨b', ih⟩ := adds_labels n l q (pre ++ [m]) (k + 1) true ats hn (fun x hx => h1 x (by simp [hx])) (by rw [e2]; exact h4)
    refine ⟨b', ?_⟩
    rw [List.map_cons, adds, hadd]
    simp only
    rw [ih, e2]
theorem filter_split {l : List Lb} (h : l.Pairwise (fun a b => a.at_ ≤ b.at_)) (k : Int) : l.filter (fun x => decide (x.at_ < k)) ++ l.filter (fun x => decide (x.at_ = k)) = l.filter (fun x => decide (x.at_ < k + 1)) := by
  induction l with
  | nil => rfl
  | cons a l ih =>
    rw [List.pairwise_cons] at h
    have ih := ih h.2
    rcases (by omega : a.at_ < k ∨ a.at_ = k ∨ k < a.at_) with hk | hk | hk
    · rw [List.filter_cons_of_pos (by simpa using hk), List.filter_cons_of_neg (by simp; omega), List.filter_cons_of_pos (by simp; omega), List.cons_append, ih]
    · have h0 : l.filter (fun x => decide (x.at_ < k)) = [] := by
        rw [List.filter_eq_nil_iff]
        intro x hx
        have := h.1 x hx
        simp; omega
      rw [h0, List.nil_append] at ih
      rw [List.filter_cons_of_neg (by simp; omega), List.filter_cons_of_pos (by simpa using hk), List.filter_cons_of_pos (by simp; omega), h0, List.nil_append, ih]
    · have h0 : ∀ (p : Lb → Bool), (∀ x ∈ l, k < x.at_ → p x = false) → l.filter p = [] := fun p hp => by
        rw [List.filter_eq_nil_iff]
        intro x hx
        have := h.1 x hx
        rw [hp x hx (by omega)]; simp
      rw [List.filter_cons_of_neg (by simp; omega), List.filter_cons_of_neg (by simp; omega), List.filter_cons_of_neg (by simp; omega), h0 _ (fun x _ hx => by simp; omega), h0 _ (fun x _ hx => by simp; omega), h0 _ (fun x _ hx => by simp; omega)]
      rfl
theorem nodup_part {a : List (List Int)} {l : List Lb} {p : Lb → Bool} (h : (a ++ l.map (·.name)).Nodup) : (a ++ (l.filter p).map (·.name)).Nodup :=
  h.sublist (List.Sublist.append (List.Sublist.refl a) (List.filter_sublist.map _))
theorem add_ins (q : Pr) (pre : List In) (i : In) (b : Bool) (ats : List Nat) (k : Nat) (h : pre.length < 32) : add ⟨{ q with ins := pre }, b, ats⟩ ⟨7, 0, false, [], i⟩ k = some ⟨{ q with ins := pre ++ [i] }, true, ats ++ [k]⟩ := by
  unfold add
  simp only
  rw [if_neg (by decide), if_neg (by decide), if_neg (by decide), if_neg (by decide), if_neg (by decide), if_neg (by decide), if_pos trivial, if_pos h]
/-- the body, one by one -/
theorem adds_body (all : List Lb) (hs : all.Pairwise (fun a b => a.at_ ≤ b.at_)) (h0 : ∀ l ∈ all, 0 ≤ l.at_) : ∀ (is : List In) (q : Pr) (pre : List In) (k : Nat) (n : Int) (b : Bool) (ats : List Nat), n = (pre.length : Int) → pre.length + is.length ≤ 32 →
    (q.mems.map (·.name) ++ all.map (·.name)).Nodup → ats.length = pre.length →
    ∃ b' ats', adds ⟨{ q with labels := all.filter (fun x => decide (x.at_ < n)), ins := pre }, b, ats⟩ k (body all n is) =
      some ⟨{ q with labels := all.filter (fun x => decide (x.at_ < n + is.length + 1)), ins := pre ++ is.map (named all) }, b', ats'⟩ ∧ ats'.length = pre.length + is.length
  | [], q, pre, k, n, b, ats, hn, h32, hnd, hat => by
    subst hn
    obtain ⟨b', h⟩ := adds_labels pre.length (all.filter (fun x => decide (x.at_ = (pre.length : Int)))) { q with ins := pre } (all.filter (fun x => decide (x.at_ < (pre.length : Int)))) k b ats rfl (fun x hx => by simpa using (List.mem_filter.1 hx).2)
      (by rw [filter_split hs]; exact nodup_part hnd)
    refine ⟨b', ats, ?_, by simpa using hat⟩
    rw [filter_split hs] at h
    unfold body
    simp only [List.length_nil, List.map_nil, List.append_nil, Int.natCast_zero, Int.add_zero]
    exact h
  | i :: is, q, pre, k, n, b, ats, hn, h32, hnd, hat => by
    subst hn
    obtain ⟨b1, h⟩ := adds_labels pre.length (all.filter (fun x => decide (x.at_ = (pre.length : Int)))) { q with ins := pre } (all.filter (fun x => decide (x.at_ < (pre.length : Int)))) k b ats rfl (fun x hx => by simpa using (List.mem_filter.1 hx).2)
      (by rw [filter_split hs]; exact nodup_part hnd)
    rw [filter_split hs] at h
    unfold body
    have e1 := adds_app ((all.filter (fun x => decide (x.at_ = (pre.length : Int)))).map labI) (insI all i :: body all ((pre.length : Int) + 1) is) _ k _ h
    have h33 : pre.length < 32 := by simp at h32; omega
    obtain ⟨b', ats', ih, hl⟩ := adds_body all hs h0 is q (pre ++ [named all i]) (k + ((all.filter (fun x => decide (x.at_ = (pre.length : Int)))).map labI).length + 1) ((pre.length : Int) + 1) true (ats ++ [k + ((all.filter (fun x => decide (x.at_ = (pre.length : Int)))).map labI).length]) (by simp) (by simp at h32 ⊢; omega) hnd (by simp [hat])
    refine ⟨b', ats', ?_, by rw [hl]; simp; omega⟩
    rw [show List.map labI (List.filter (fun l => decide (l.at_ = (pre.length : Int))) all) ++ insI all i :: body all ((pre.length : Int) + 1) is = (all.filter (fun x => decide (x.at_ = (pre.length : Int)))).map labI ++ (insI all i :: body all ((pre.length : Int) + 1) is) from rfl]
    refine e1.trans ?_
    unfold adds
    have ha := add_ins { q with labels := all.filter (fun x => decide (x.at_ < (pre.length : Int) + 1)) } pre (named all i) b1 ats (k + ((all.filter (fun x => decide (x.at_ = (pre.length : Int)))).map labI).length) h33
    rw [show insI all i = ⟨7, 0, false, [], named all i⟩ from rfl]
    simp only at ha ⊢
    rw [ha]
    simp only
    rw [ih]
    have e3 : ((pre.length : Int) + 1 + (is.length : Int) + 1) = (pre.length : Int) + ((i :: is).length : Int) + 1 := by simp; omega
    rw [e3, List.map_cons, List.append_assoc, List.singleton_append]
theorem labelOf_at {ls : List Lb} (hnd : (ls.map (·.name)).Nodup) {x : Lb} (hx : x ∈ ls) : labelOf x.name ls = some x.at_ := by
  induction ls with
  | nil => cases hx
  | cons y l ih =>
    unfold labelOf
    rw [List.map_cons, List.nodup_cons] at hnd
    rcases List.mem_cons.1 hx with rfl | hx
    · rw [if_pos rfl]
    · rw [if_neg (fun e => hnd.1 (by rw [e]; exact List.mem_map_of_mem hx))]
      exact ih hnd.2 hx
theorem goes_named (ls : List Lb) (i : In) : goes (named ls i) = goes i := by
  unfold named
  split
  · rfl
  · rfl
theorem aim_back {ls : List Lb} (hnd : (ls.map (·.name)).Nodup) : ∀ (is : List In) (ks : List Nat), ks.length = is.length → (∀ i ∈ is, goes i = true → i.name = [] ∧ ∃ l ∈ ls, l.at_ = i.target) → aim ls (is.map (named ls)) ks = .ok is
  | [], ks, _, _ => by cases ks <;> rfl
  | i :: is, [], h, _ => by simp at h
  | i :: is, k :: ks, h, ho => by
    have ih := aim_back hnd is ks (by simpa using h) (fun j hj => ho j (by simp [hj]))
    rw [List.map_cons, aim, goes_named]
    by_cases hg : goes i = true
    · rw [if_pos hg]
      obtain ⟨hn, hl⟩ := ho i (by simp) hg
      obtain ⟨z, hz, z1, z2⟩ := labelAt_ok hl
      have e : (named ls i).name = z.name := by rw [named, if_pos hg, z2]
      rw [e, labelOf_at hnd hz]
      simp only
      rw [ih]
      simp only
      congr 1
      congr 1
      rw [named, if_pos hg, z1]
      cases i
      simp only at hn ⊢
      rw [hn]
    · rw [if_neg hg, ih]
      simp only
      rw [named, if_neg hg]
theorem items_ok {p : Pr} (h : WF p) : ∀ i ∈ items p, Sy.Ok i := by
  intro i hi
  have hb : ∀ (is : List In) (k : Int), (∀ j ∈ is, Sy.OkI (named p.labels j)) → ∀ i ∈ body p.labels k is, Sy.Ok i := by
    have hl : ∀ (k : Int), ∀ i ∈ (p.labels.filter (fun l => decide (l.at_ = k))).map labI, Sy.Ok i := fun k i hi => by
      obtain ⟨l, hl, rfl⟩ := List.mem_map.1 hi
      exact .label (h.labels l (List.mem_filter.1 hl).1).1
    intro is
    induction is with
    | nil => intro k _ i hi; exact hl k i hi
    | cons j is ih =>
      intro k ho i hi
      unfold body at hi
      rcases List.mem_append.1 hi with hi | hi
      · exact hl k i hi
      · rcases List.mem_cons.1 hi with rfl | hi
        · exact .ins (ho j (by simp))
        · exact ih (k + 1) (fun x hx => ho x (by simp [hx])) i hi
  have hr : ∀ (l : List Int) (d : Int), 0 ≤ d → d + l.length ≤ 4 → ∀ i ∈ regs d l, Sy.Ok i := by
    intro l
    induction l with
    | nil => intro d _ _ i hi; cases hi
    | cons v l ih =>
      intro d h0 h4 i hi
      unfold regs at hi
      simp only [List.length_cons] at h4
      rcases List.mem_append.1 hi with hi | hi
      · split at hi
        · rw [List.mem_singleton] at hi
          subst hi
          exact .reg ⟨by omega, by omega⟩
        · cases hi
      · exact ih (d + 1) (by omega) (by omega) i hi
  have hw := h.w; have hwin := h.win; have hfu := h.fuel
  have hN : ∀ {n : Int}, 1 ≤ n → n ≤ 1000 → Sy.okN n := fun a b => ⟨by omega, by omega⟩
  unfold items at hi
  rcases List.mem_append.1 hi with hi | hi
  · rcases List.mem_append.1 hi with hi | hi
    · rcases List.mem_append.1 hi with hi | hi
      · unfold heads at hi
        simp only [List.mem_cons, List.not_mem_nil, or_false] at hi
        rcases hi with rfl | rfl | rfl
        · exact .num (by decide) (by decide) (hN hw.1 (by omega))
        · exact .num (by decide) (by decide) (hN hwin.1 (by omega))
        · exact .num (by decide) (by decide) (hN hfu.1 (by omega))
      · exact hr p.regs 0 (by decide) (by rw [h.r4]; decide) i hi
    · obtain ⟨m, hm, rfl⟩ := List.mem_map.1 hi
      have := h.mems m hm
      have hc : m.n ≤ cells p.mems := by
        have hp : ∀ (l : List Mm), (∀ x ∈ l, 1 ≤ x.n) → 0 ≤ cells l ∧ ∀ x ∈ l, x.n ≤ cells l := by
          intro l
          induction l with
          | nil => intro _; exact ⟨by decide, fun x hx => by cases hx⟩
          | cons a l ih =>
            intro hl
            obtain ⟨i1, i2⟩ := ih (fun x hx => hl x (by simp [hx]))
            have := hl a (by simp)
            refine ⟨by simp only [cells]; omega, fun x hx => ?_⟩
            simp only [cells]
            rcases List.mem_cons.1 hx with rfl | hx
            · omega
            · have := i2 x hx; omega
        exact (hp p.mems (fun x hx => (h.mems x hx).2)).2 m hm
      have := h.cells.1
      exact .mem (h.mems m hm).1 (hN (h.mems m hm).2 (by omega))
  · exact hb p.ins 0 (fun j hj => (h.ins j hj).1) i hi
/-- **a well-formed program is told by its text** -/
theorem parse_text (hT : TextOk) {p : Pr} (h : WF p) : parse (bytes (text p)) = .ok p := by
  have hL : lines (bytes (text p)) = (items p).map (fun i => bytes (Sy.text i)) := by
    unfold text
    rw [bytes_text]
    exact lines_all _ (fun x hx => by
      obtain ⟨i, hi, rfl⟩ := List.mem_map.1 hx
      exact (hT i (items_ok h i hi)).2)
  have hw := h.w; have hwin := h.win; have hfu := h.fuel
  have a1 : adds r0 0 (heads p) = some ⟨⟨p.w, p.win, p.fuel, [0, 0, 0, 0], [], [], []⟩, false, []⟩ := by
    unfold heads r0 p0
    simp only [adds, add]
    rw [if_pos trivial, if_pos ⟨trivial, trivial, hw.1, hw.2⟩]
    simp only
    rw [if_neg (by decide), if_pos trivial, if_pos ⟨trivial, trivial, hwin.1, hwin.2⟩]
    simp only
    rw [if_neg (by decide), if_neg (by decide), if_pos trivial, if_pos ⟨trivial, trivial, hfu.1, hfu.2⟩]
  have a2 : adds ⟨⟨p.w, p.win, p.fuel, [0, 0, 0, 0], [], [], []⟩, false, []⟩ 3 (regs 0 p.regs) = some ⟨⟨p.w, p.win, p.fuel, p.regs, [], [], []⟩, false, []⟩ := by
    have := adds_regs p.regs { p0 with w := p.w, win := p.win, fuel := p.fuel } [] 0 3 [] rfl h.regs
    rw [h.r4] at this
    exact this
  have a3 : adds ⟨⟨p.w, p.win, p.fuel, p.regs, [], [], []⟩, false, []⟩ (3 + (regs 0 p.regs).length) (p.mems.map memI) = some ⟨⟨p.w, p.win, p.fuel, p.regs, p.mems, [], []⟩, false, []⟩ := adds_mems p.w p.mems { p0 with w := p.w, win := p.win, fuel := p.fuel, regs := p.regs } [] (3 + (regs 0 p.regs).length) [] rfl rfl (fun m hm => (h.mems m hm).2) h.cells.1 h.cells.2 (by
    have := h.names
    rw [List.nodup_append] at this
    exact this.1)
  have hf0 : p.labels.filter (fun x => decide (x.at_ < 0)) = [] := by
    rw [List.filter_eq_nil_iff]
    intro l hl
    have := (h.labels l hl).2.1
    simp; omega
  have hfn : p.labels.filter (fun x => decide (x.at_ < 0 + (p.ins.length : Int) + 1)) = p.labels := by
    rw [List.filter_eq_self]
    intro l hl
    have := (h.labels l hl).2.2
    simp; omega
  obtain ⟨b', ats', a4, hlen⟩ := adds_body p.labels h.sorted (fun l hl => (h.labels l hl).2.1) p.ins { p0 with w := p.w, win := p.win, fuel := p.fuel, regs := p.regs, mems := p.mems } [] (3 + (regs 0 p.regs).length + (p.mems.map memI).length) 0 false [] rfl (by simpa using h.ins1.2) h.names rfl
  rw [hf0, hfn] at a4
  replace a4 : adds ⟨⟨p.w, p.win, p.fuel, p.regs, p.mems, [], []⟩, false, []⟩ (3 + (regs 0 p.regs).length + (p.mems.map memI).length) (body p.labels 0 p.ins) = some ⟨⟨p.w, p.win, p.fuel, p.regs, p.mems, p.labels, p.ins.map (named p.labels)⟩, b', ats'⟩ := a4
  have aAll : adds r0 0 (items p) = some ⟨⟨p.w, p.win, p.fuel, p.regs, p.mems, p.labels, p.ins.map (named p.labels)⟩, b', ats'⟩ := by
    unfold items
    rw [List.append_assoc, List.append_assoc]
    rw [adds_app (heads p) _ r0 0 _ a1]
    show adds _ 3 _ = _
    rw [adds_app (regs 0 p.regs) _ _ 3 _ a2, adds_app (p.mems.map memI) _ _ _ _ a3]
    exact a4
  unfold parse
  rw [hL, run_items hT (items p) (items_ok h) r0 0 _ aAll]
  simp only
  unfold finish
  have hne : ¬ (p.w = 0 ∨ p.ins.map (named p.labels) = []) := by
    intro e
    rcases e with e | e
    · omega
    · have h1 := h.ins1.1
      have : p.ins.length = 0 := by rw [← List.length_map (named p.labels), e]; rfl
      omega
  simp only
  rw [if_neg hne, aim_back (by have := h.names; rw [List.nodup_append] at this; exact this.2.1) p.ins ats' (by simpa using hlen) (fun i hi => (h.ins i hi).2)]
  simp only [fill]
  rw [if_neg (by omega), if_neg (by omega)]
theorem print_wf (hT : TextOk) {p : Pr} (h : WF p) : print p = some (text p) := by
  unfold print
  rw [parse_text hT h]
  exact if_pos rfl
theorem print_not {p : Pr} (h : ¬ WF p) : print p = none := by
  unfold print
  split
  · rename_i q hq
    by_cases e : q = p
    · subst e; exact absurd (parse_wf hq) h
    · exact if_neg e
  · rfl
end Pg
end
end Go.Proofs.YtmghklokbmdenaaDoor
namespace Go.Proofs.YtmghklokbmdenaaDoor
section
namespace Pg
open Sy (In It Vl)
/-- the landed code's order: labels are taken as they come -/
def bodyG (all : List Lb) : List Lb → Int → List In → List It
  | rest, _, [] => rest.map labI
  | rest, k, i :: is => (rest.takeWhile (fun l => decide (l.at_ ≤ k))).map labI ++ insI all i :: bodyG all (rest.dropWhile (fun l => decide (l.at_ ≤ k))) (k + 1) is
def itemsG (p : Pr) : List It := heads p ++ regs 0 p.regs ++ p.mems.map memI ++ bodyG p.labels p.labels 0 p.ins
theorem split_sorted {l : List Lb} (h : l.Pairwise (fun a b => a.at_ ≤ b.at_)) (k : Int) (h0 : ∀ x ∈ l, k ≤ x.at_) :
    l.takeWhile (fun x => decide (x.at_ ≤ k)) = l.filter (fun x => decide (x.at_ = k)) ∧ l.dropWhile (fun x => decide (x.at_ ≤ k)) = l.filter (fun x => decide (k + 1 ≤ x.at_)) := by
  induction l with
  | nil => exact ⟨rfl, rfl⟩
  | cons a l ih =>
    rw [List.pairwise_cons] at h
    obtain ⟨i1, i2⟩ := ih h.2 (fun x hx => h0 x (by simp [hx]))
    have ha := h0 a (by simp)
    by_cases e : a.at_ = k
    · rw [List.takeWhile_cons_of_pos (by simp; omega), List.dropWhile_cons_of_pos (by simp; omega), List.filter_cons_of_pos (by simpa using e), List.filter_cons_of_neg (by simp; omega), i1, i2]
      exact ⟨rfl, rfl⟩
    · have hk : k < a.at_ := by omega
      have hl : ∀ x ∈ l, k < x.at_ := fun x hx => by have := h.1 x hx; omega
      rw [List.takeWhile_cons_of_neg (by simp; omega), List.dropWhile_cons_of_neg (by simp; omega), List.filter_cons_of_neg (by simp; omega), List.filter_cons_of_pos (by simp; omega)]
      refine ⟨?_, ?_⟩
      · symm
        rw [List.filter_eq_nil_iff]
        intro x hx
        have := hl x hx
        simp; omega
      · congr 1
        symm
        rw [List.filter_eq_self]
        intro x hx
        have := hl x hx
        simp; omega
theorem bodyG_is (all : List Lb) (hs : all.Pairwise (fun a b => a.at_ ≤ b.at_)) : ∀ (is : List In) (k : Int), (∀ l ∈ all, l.at_ ≤ k + is.length) → bodyG all (all.filter (fun x => decide (k ≤ x.at_))) k is = body all k is
  | [], k, h => by
    unfold bodyG body
    congr 1
    refine List.filter_congr (fun x hx => ?_)
    have := h x hx
    simp only [List.length_nil, Int.natCast_zero, Int.add_zero] at this
    rw [decide_eq_decide]
    omega
  | i :: is, k, h => by
    unfold bodyG body
    have hsf : (all.filter (fun x => decide (k ≤ x.at_))).Pairwise (fun a b => a.at_ ≤ b.at_) := hs.sublist List.filter_sublist
    obtain ⟨e1, e2⟩ := split_sorted hsf k (fun x hx => by simpa using (List.mem_filter.1 hx).2)
    rw [e1, e2, List.filter_filter, List.filter_filter]
    have f1 : all.filter (fun a => decide (a.at_ = k) && decide (k ≤ a.at_)) = all.filter (fun a => decide (a.at_ = k)) := List.filter_congr (fun x _ => by
      by_cases e : x.at_ = k <;> simp [e])
    have f2 : all.filter (fun a => decide (k + 1 ≤ a.at_) && decide (k ≤ a.at_)) = all.filter (fun a => decide (k + 1 ≤ a.at_)) := List.filter_congr (fun x _ => by
      by_cases e : k + 1 ≤ x.at_
      · simp [e]; omega
      · simp [e])
    rw [f1, f2, bodyG_is all hs is (k + 1) (fun l hl => by have := h l hl; simp only [List.length_cons] at this; omega)]
theorem itemsG_is {p : Pr} (h : WF p) : itemsG p = items p := by
  unfold itemsG items
  congr 1
  have hf : p.labels.filter (fun x => decide (0 ≤ x.at_)) = p.labels := by
    rw [List.filter_eq_self]
    intro l hl
    have := (h.labels l hl).2.1
    simpa using this
  have := bodyG_is p.labels h.sorted p.ins 0 (fun l hl => by have := (h.labels l hl).2.2; omega)
  rwa [hf] at this
/-- the document's answer: an instruction keeps its own name where no label stands -/
def nameR (ls : List Lb) (t : Int) (n : List Int) : List Int := match ls with
  | [] => n
  | l :: r => if l.at_ = t then l.name else nameR r t n
def namedR (ls : List Lb) (i : In) : In := if goes i then { i with name := nameR ls i.target i.name } else i
def labT (ls : List Lb) (k : Int) : List Int := match ls with
  | [] => []
  | l :: r => (if l.at_ = k then l.name ++ [58, 10] else []) ++ labT r k
def bodyR (all : List Lb) : Int → List In → List Int
  | k, [] => labT all k
  | k, i :: is => labT all k ++ Sy.insT (namedR all i) ++ [10] ++ bodyR all (k + 1) is
def textR (p : Pr) : List Int := (heads p ++ regs 0 p.regs ++ p.mems.map memI).flatMap lineT ++ bodyR p.labels 0 p.ins
theorem nameR_is {t : Int} {n : List Int} : ∀ {ls : List Lb}, (∃ l ∈ ls, l.at_ = t) → nameR ls t n = labelAt t ls
  | [], h => by obtain ⟨l, hl, _⟩ := h; cases hl
  | l :: r, h => by
    unfold nameR labelAt
    by_cases e : l.at_ = t
    · rw [if_pos e, if_pos e]
    · rw [if_neg e, if_neg e]
      obtain ⟨x, hx, hxt⟩ := h
      rcases List.mem_cons.1 hx with rfl | hx
      · exact absurd hxt e
      · exact nameR_is ⟨x, hx, hxt⟩
theorem labT_is (k : Int) : ∀ ls : List Lb, labT ls k = ((ls.filter (fun l => decide (l.at_ = k))).map labI).flatMap lineT
  | [] => rfl
  | l :: r => by
    unfold labT
    by_cases e : l.at_ = k
    · rw [if_pos e, List.filter_cons_of_pos (by simpa using e), List.map_cons, List.flatMap_cons, ← labT_is k r]
      show _ = (l.name ++ [58]) ++ [10] ++ _
      simp
    · rw [if_neg e, List.filter_cons_of_neg (by simpa using e), labT_is k r, List.nil_append]
theorem insT_target (i : In) (t : Int) : Sy.insT { i with target := t } = Sy.insT i := rfl
theorem bodyR_is (all : List Lb) : ∀ (is : List In) (k : Int), (∀ i ∈ is, goes i = true → ∃ l ∈ all, l.at_ = i.target) → bodyR all k is = (body all k is).flatMap lineT
  | [], k, _ => by unfold bodyR body; exact labT_is k all
  | i :: is, k, h => by
    unfold bodyR body
    rw [List.flatMap_append, List.flatMap_cons, ← bodyR_is all is (k + 1) (fun j hj => h j (by simp [hj])), labT_is]
    have e : Sy.insT (namedR all i) = Sy.text (insI all i) := by
      show _ = Sy.insT (named all i)
      unfold namedR named
      by_cases hg : goes i = true
      · rw [if_pos hg, if_pos hg, nameR_is (h i (by simp) hg)]
        rfl
      · rw [if_neg hg, if_neg hg]
    rw [e, lineT]
    simp
theorem textR_is {p : Pr} (h : WF p) : textR p = text p := by
  unfold textR text items
  rw [bodyR_is p.labels p.ins 0 (fun i hi hg => ((h.ins i hi).2 hg).2), List.flatMap_append (ys := body _ _ _)]
end Pg
end
end Go.Proofs.YtmghklokbmdenaaDoor
