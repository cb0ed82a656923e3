/- What an abstract value says of a value in memory; an abstract state, of a world. -/
import Derived.Test.YtdbnfdcjibgikaaRx2
set_option linter.unusedVariables false
set_option linter.unusedSimpArgs false
namespace Go.Proofs.Ytdbnfdcjibgikaa.Rx
open Go.RowKit
/-- a value that hangs on blocks of R alone -/
inductive RepP (w : World) (R : Nat → Prop) : AV → Value → Prop where
  | int (k : IntKind) (n : Int) : RepP w R (.int k n) (.int k n)
  | bool (b : Bool) : RepP w R (.bool b) (.bool b)
  | str (s : ByteArray) : RepP w R (.str s) (.string s)
  | nilp : RepP w R .nilp (.pointer none)
  | nils : RepP w R .nils (.slice none 0 0)
  | row {m n : Nat} {f : Nat → Nat → AV} (A : Option Addr) (cap : Nat) (u : Nat → Nat → Value) (hn : n ≤ cap) (hc : cap ≤ maxLen)
      (hA : 0 < n * m → ∃ g o, A = some ⟨g, o, none⟩ ∧ R g ∧ ∀ i, i < n → ∀ j, j < m → w.cell? ⟨g, o + (i * m + j), none⟩ = some (u i j))
      (h1 : ∀ i, i < n → ∀ j, j < m → (u i j).oneCell' = true) (hu : ∀ i, i < n → ∀ j, j < m → RepP w R (f i j) (u i j)) : RepP w R (.row m n f) (.slice A n cap)
  | agg {cs : List AV} {vs : Array Value} (hl : cs.length = vs.size) (h1 : ∀ (j : Nat) v, vs[j]? = some v → v.oneCell' = true)
      (h : ∀ (j : Nat) a v, cs[j]? = some a → vs[j]? = some v → RepP w R a v) : RepP w R (.agg cs) (.agg vs)
  | tup {cs : List AV} {vs : Array Value} (hl : cs.length = vs.size) (h : ∀ (j : Nat) a v, cs[j]? = some a → vs[j]? = some v → RepP w R a v) : RepP w R (.tup cs) (.tuple vs)
  | clo {f : FuncId} {cs : List AV} {vs : Array Value} (hl : cs.length = vs.size) (h : ∀ (j : Nat) a v, cs[j]? = some a → vs[j]? = some v → RepP w R a v) : RepP w R (.clo f cs) (.func (.func f) #[] vs)
  | rptr {m j g o : Nat} {cs : Nat → AV} (hR : R g) (u : Nat → Value) (hc : ∀ q, q < m → w.cell? ⟨g, o + q, none⟩ = some (u q)) (h1 : ∀ q, q < m → (u q).oneCell' = true) (hu : ∀ q, q < m → RepP w R (cs q) (u q)) :
      RepP w R (.rptr m cs j) (.pointer (some ⟨g, o + j, none⟩))
  | val (v : Value) : RepP w R (.val v) v
  | junk (v : Value) : RepP w R .junk v
/-- what is known at a moment: the world; the blocks that stay as they are; where each own block lies, and how many elements it has room for; what each holds; below base all stays -/
structure Cx where
  w : World
  R : Nat → Prop
  φ : Nat → Option (Nat × Nat)
  H : Nat → Option Blk
  B : Nat
/-- a slice of the call's own -/
def OwnV (cx : Cx) (id : Nat) (b : Blk) (m off len : Nat) (v : Value) : Prop :=
  ∃ n f, b.c = .rows m n f ∧ off + len ≤ n ∧ ((cx.φ id = none ∧ off = 0 ∧ len = 0 ∧ v = .slice none 0 0) ∨ ∃ g cap, cx.φ id = some (g, cap) ∧ v = .slice (some ⟨g, off * m, none⟩) len (cap - off))
/-- a place in such a row -/
def EltV (cx : Cx) (id : Nat) (b : Blk) (m i j : Nat) (v : Value) : Prop :=
  ∃ n f g cap, b.c = .rows m n f ∧ i < n ∧ cx.φ id = some (g, cap) ∧ v = .pointer (some ⟨g, i * m + j, none⟩)
def BC.isBox : BC → Bool
  | .box _ => true
  | _ => false
inductive Rep (cx : Cx) : AV → Value → Prop where
  | pure {a : AV} {v : Value} (h : RepP cx.w cx.R a v) : Rep cx a v
  | bptr {id off g cap : Nat} {b : Blk} (hb : cx.H id = some b) (hc : b.c.isBox = true) (hg : cx.φ id = some (g, cap)) : Rep cx (.bptr id off) (.pointer (some ⟨g, off, none⟩))
  | eptr {id gen m i j : Nat} {v : Value} {b : Blk} (hb : cx.H id = some b) (hle : gen ≤ b.gen) (ho : v.oneCell' = true) (h : b.gen = gen → EltV cx id b m i j v) : Rep cx (.eptr id gen m i j) v
  | own {id gen m off len : Nat} {v : Value} {b : Blk} (hb : cx.H id = some b) (hle : gen ≤ b.gen) (ho : v.oneCell' = true) (h : b.gen = gen → OwnV cx id b m off len v) : Rep cx (.own id gen m off len) v
  | agg {cs : List AV} {vs : Array Value} (hl : cs.length = vs.size) (h1 : ∀ (j : Nat) v, vs[j]? = some v → v.oneCell' = true)
      (h : ∀ (j : Nat) a v, cs[j]? = some a → vs[j]? = some v → Rep cx a v) : Rep cx (.agg cs) (.agg vs)
  | tup {cs : List AV} {vs : Array Value} (hl : cs.length = vs.size) (h : ∀ (j : Nat) a v, cs[j]? = some a → vs[j]? = some v → Rep cx a v) : Rep cx (.tup cs) (.tuple vs)
  | clo {f : FuncId} {cs : List AV} {vs : Array Value} (hl : cs.length = vs.size) (h : ∀ (j : Nat) a v, cs[j]? = some a → vs[j]? = some v → Rep cx a v) : Rep cx (.clo f cs) (.func (.func f) #[] vs)
/-- a block of the call's own in memory -/
def HB (cx : Cx) (id : Nat) (b : Blk) : Prop :=
  match b.c with
  | .box cs => ∃ g cur, cx.φ id = some (g, 1) ∧ cx.w.heap[g]? = some (.cells cur b.e (0, 0)) ∧ cur.size = cs.length ∧
      (∀ (j : Nat) a, cs[j]? = some a → ∃ u, cur[j]? = some u ∧ u.oneCell' = true ∧ Rep cx a u) ∧ cx.B ≤ g ∧ (if b.frz then cx.R g else ¬ cx.R g)
  | .rows m n f => (cx.φ id = none ∧ n = 0) ∨ ∃ g cap cur, cx.φ id = some (g, cap) ∧ cx.w.heap[g]? = some (.cells cur b.e (0, 0)) ∧ cur.size = cap * m ∧ n ≤ cap ∧ cap ≤ maxLen ∧
      (∀ i, i < n → ∀ j, j < m → ∃ u, cur[i * m + j]? = some u ∧ u.oneCell' = true ∧ RepP cx.w cx.R (f i j) u) ∧ cx.B ≤ g ∧ (if b.frz then cx.R g else ¬ cx.R g)
structure CRep (cx : Cx) : Prop where
  hb : ∀ id b, cx.H id = some b → HB cx id b
  inj : ∀ id id' g c c', (cx.H id).isSome = true → (cx.H id').isSome = true → cx.φ id = some (g, c) → cx.φ id' = some (g, c') → id = id'
  rlt : ∀ g, cx.R g → g < cx.w.heap.size
  blt : cx.B ≤ cx.w.heap.size
/-- what a stretch of the run leaves: below base, and in R, all is as it was -/
structure Ext (cx cx' : Cx) : Prop where
  B : cx'.B = cx.B
  R : ∀ g, cx.R g → cx'.R g
  Rn : ∀ g, cx'.R g → cx.R g ∨ cx.B ≤ g
  os : cx'.w.os = cx.w.os
  tape : cx'.w.tape = cx.w.tape
  output : cx'.w.output = cx.w.output
  size : cx.w.heap.size ≤ cx'.w.heap.size
  block : ∀ g, g < cx.w.heap.size → (g < cx.B ∨ cx.R g) → cx'.w.heap[g]? = cx.w.heap[g]?
theorem Ext.refl (cx : Cx) : Ext cx cx := ⟨rfl, fun _ h => h, fun _ h => .inl h, rfl, rfl, rfl, Nat.le_refl _, fun _ _ _ => rfl⟩
theorem Ext.trans {a b c : Cx} (h : Ext a b) (k : Ext b c) : Ext a c :=
  ⟨k.B.trans h.B, fun g hg => k.R g (h.R g hg), fun g hg => by
    rcases k.Rn g hg with h1 | h1
    · exact h.Rn g h1
    · rw [h.B] at h1; exact .inr h1, k.os.trans h.os, k.tape.trans h.tape, k.output.trans h.output, Nat.le_trans h.size k.size,
    fun g hg ho => (k.block g (Nat.lt_of_lt_of_le hg h.size) (ho.imp (fun h1 => by rw [h.B]; exact h1) (h.R g))).trans (h.block g hg ho)⟩
section
variable {w w' : World} {R R' : Nat → Prop}
theorem RepP.mono {a : AV} {v : Value} (h : RepP w R a v) (hR : ∀ g, R g → R' g) (hw : ∀ g, R g → w'.heap[g]? = w.heap[g]?) : RepP w' R' a v := by
  induction h with
  | int k n => exact .int k n
  | bool b => exact .bool b
  | str s => exact .str s
  | nilp => exact .nilp
  | nils => exact .nils
  | @row m n f A cap u hn hc hA h1 hu ih =>
    refine .row A cap u hn hc (fun hp => ?_) h1 ih
    obtain ⟨g, o, e, hg, hcell⟩ := hA hp
    exact ⟨g, o, e, hR g hg, fun i hi j hj => (World.cell?_of_block (w := w) (a := ⟨g, _, none⟩) (hw g hg)).trans (hcell i hi j hj)⟩
  | agg hl h1 h ih => exact .agg hl h1 ih
  | tup hl h ih => exact .tup hl ih
  | clo hl h ih => exact .clo hl ih
  | rptr hR' u hcell h1 hu ih => exact .rptr (hR _ hR') u (fun q hq => (World.cell?_of_block (w := w) (a := ⟨_, _, none⟩) (hw _ hR')).trans (hcell q hq)) h1 ih
  | val v => exact .val v
  | junk v => exact .junk v
end
def sameShape (b b' : Blk) : Prop :=
  match b.c with
  | .box _ => ∃ cs', b'.c = .box cs'
  | .rows m n _ => ∃ f', b'.c = .rows m n f'
/-- numbers that are known mean what they meant -/
structure Stab (cx cx' : Cx) : Prop where
  ext : Ext cx cx'
  ids : ∀ id b, cx.H id = some b → ∃ b', cx'.H id = some b' ∧ (b'.gen = b.gen → cx'.φ id = cx.φ id ∧ sameShape b b') ∧ (b.c.isBox = true → b'.gen = b.gen)
  gens : ∀ id b b', cx.H id = some b → cx'.H id = some b' → b.gen ≤ b'.gen
theorem Ext.heap {cx cx' : Cx} (h : Ext cx cx') (hc : CRep cx) {g : Nat} (hg : cx.R g) : cx'.w.heap[g]? = cx.w.heap[g]? := h.block g (hc.rlt g hg) (.inr hg)
theorem RepP.ext {cx cx' : Cx} {a : AV} {v : Value} (h : RepP cx.w cx.R a v) (hc : CRep cx) (he : Ext cx cx') : RepP cx'.w cx'.R a v := h.mono he.R fun _ hg => he.heap hc hg
theorem sameShape.box {b b' : Blk} (h : sameShape b b') (hb : b.c.isBox = true) : b'.c.isBox = true := by
  unfold sameShape at h
  cases hc : b.c with
  | box cs => rw [hc] at h; obtain ⟨cs', h⟩ := h; rw [h]; rfl
  | rows m n f => rw [hc] at hb; cases hb
theorem Rep.stab {cx cx' : Cx} {a : AV} {v : Value} (h : Rep cx a v) (hc : CRep cx) (hs : Stab cx cx') : Rep cx' a v := by
  induction h with
  | pure h => exact .pure (h.ext hc hs.ext)
  | bptr hb hx hg =>
    obtain ⟨b', h1, h2, h3⟩ := hs.ids _ _ hb
    obtain ⟨h4, h5⟩ := h2 (h3 hx)
    exact .bptr h1 (h5.box hx) (h4.trans hg)
  | eptr hb hle ho h =>
    obtain ⟨b', h1, h2, h3⟩ := hs.ids _ _ hb
    have hge := hs.gens _ _ _ hb h1
    refine .eptr h1 (Nat.le_trans hle hge) ho fun e => ?_
    obtain ⟨h4, h5⟩ := h2 (by omega)
    obtain ⟨n, f, g, cap, q1, q2, q3, q4⟩ := h (by omega)
    unfold sameShape at h5
    rw [q1] at h5
    obtain ⟨f', h5⟩ := h5
    exact ⟨n, f', g, cap, h5, q2, h4.trans q3, q4⟩
  | own hb hle ho h =>
    obtain ⟨b', h1, h2, h3⟩ := hs.ids _ _ hb
    have hge := hs.gens _ _ _ hb h1
    refine .own h1 (Nat.le_trans hle hge) ho fun e => ?_
    obtain ⟨h4, h5⟩ := h2 (by omega)
    obtain ⟨n, f, q1, q2, q3⟩ := h (by omega)
    unfold sameShape at h5
    rw [q1] at h5
    obtain ⟨f', h5⟩ := h5
    exact ⟨n, f', h5, q2, by rw [h4]; exact q3⟩
  | agg hl h1 h ih => exact .agg hl h1 ih
  | tup hl h ih => exact .tup hl ih
  | clo hl h ih => exact .clo hl ih
theorem Stab.refl (cx : Cx) : Stab cx cx :=
  ⟨Ext.refl cx, fun id b h => ⟨b, h, fun _ => ⟨rfl, by unfold sameShape; cases b.c <;> exact ⟨_, rfl⟩⟩, fun _ => rfl⟩, fun id b b' h h' => by rw [h] at h'; cases h'; exact Nat.le_refl _⟩
theorem sameShape.trans {a b c : Blk} (h : sameShape a b) (k : sameShape b c) : sameShape a c := by
  unfold sameShape at *
  cases ha : a.c with
  | box cs => rw [ha] at h; obtain ⟨cs', h⟩ := h; rw [h] at k; exact k
  | rows m n f => rw [ha] at h; obtain ⟨f', h⟩ := h; rw [h] at k; exact k
theorem Stab.trans {a b c : Cx} (h : Stab a b) (k : Stab b c) : Stab a c := by
  refine ⟨h.ext.trans k.ext, fun id x hx => ?_, fun id x z hx hz => ?_⟩
  · obtain ⟨y, h1, h2, h3⟩ := h.ids id x hx
    obtain ⟨z, k1, k2, k3⟩ := k.ids id y h1
    have g1 := h.gens id x y hx h1
    have g2 := k.gens id y z h1 k1
    refine ⟨z, k1, fun e => ?_, fun hb => ?_⟩
    · obtain ⟨p1, p2⟩ := h2 (by omega)
      obtain ⟨q1, q2⟩ := k2 (by omega)
      exact ⟨q1.trans p1, p2.trans q2⟩
    · have e1 := h3 hb
      have := (h2 e1).2.box hb
      exact (k3 this).trans e1
  · obtain ⟨y, h1, _, _⟩ := h.ids id x hx
    exact Nat.le_trans (h.gens id x y hx h1) (k.gens id y z h1 hz)
end Go.Proofs.Ytdbnfdcjibgikaa.Rx
