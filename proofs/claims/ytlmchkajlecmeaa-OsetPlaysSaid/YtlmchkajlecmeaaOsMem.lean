/- Words for memory that is written in place: a frame by its blocks; a set of keys behind a pointer. -/
import Derived.Test.YtlmchkajlecmeaaMem
import Derived.Test.YtlmchkajlecmeaaOsMath
set_option linter.unusedVariables false
set_option linter.unusedSimpArgs false
namespace Go.Proofs.Ytlmchkajlecmeaa
open Go.RowKit
/-- all blocks that were there are as they were, but those of S -/
structure Fr (S : Nat → Prop) (w w' : World) : Prop where
  os : w'.os = w.os
  tape : w'.tape = w.tape
  output : w'.output = w.output
  size : w.heap.size ≤ w'.heap.size
  block : ∀ k, k < w.heap.size → ¬ S k → w'.heap[k]? = w.heap[k]?
theorem Fr.refl (S : Nat → Prop) (w : World) : Fr S w w := ⟨rfl, rfl, rfl, Nat.le_refl _, fun _ _ _ => rfl⟩
theorem Fr.of_below {S : Nat → Prop} {w w' : World} (h : Below w.heap.size w w') : Fr S w w' := ⟨h.os, h.tape, h.output, h.size, fun k hk _ => h.block k hk⟩
theorem Fr.trans {S S' : Nat → Prop} {a b c : World} (h : Fr S a b) (k : Fr S' b c) (hs : ∀ x, S' x → S x ∨ a.heap.size ≤ x) : Fr S a c :=
  ⟨k.os.trans h.os, k.tape.trans h.tape, k.output.trans h.output, Nat.le_trans h.size k.size, fun i hi hn => (k.block i (Nat.lt_of_lt_of_le hi h.size) (fun hx => (hs i hx).elim hn (fun h2 => by omega))).trans (h.block i hi hn)⟩
theorem Fr.up {S : Nat → Prop} {a b c : World} (h : Fr S a b) (k : Below b.heap.size b c) : Fr S a c := h.trans (S' := fun _ => False) (Fr.of_below k) (fun x hx => hx.elim)
theorem Fr.below {B : Nat} {S : Nat → Prop} {w w' : World} (h : Fr S w w') (hS : ∀ k, S k → B ≤ k) (hB : B ≤ w.heap.size) : Below B w w' := ⟨h.os, h.tape, h.output, h.size, fun k hk => h.block k (by omega) (fun hx => by have := hS k hx; omega)⟩
theorem Rd.fr {S : Nat → Prop} {w w' : World} {A : Option Addr} {xs : List Value} (h : Rd w w.heap.size A xs) (hf : Fr S w w') (hA : ∀ ad, A = some ad → ¬ S ad.block) : Rd w' w'.heap.size A xs := fun hn => by
  obtain ⟨ad, rfl, hb, hc⟩ := h hn
  refine ⟨ad, rfl, Nat.lt_of_lt_of_le hb hf.size, fun j u hu => ?_⟩
  rw [← hc j u hu]
  refine World.cell?_of_block (hf.block _ (by rw [adr_block]; exact hb) (by rw [adr_block]; exact hA ad rfl))
theorem own_fr {S : Nat → Prop} {w w' : World} {B n : Nat} {e : TypeId} {v : Value} {xs : List Value} (h : w.ownsRow B e 1 v n xs) (hf : Fr S w w') (hv : ∀ k, v.ownBlock = some k → ¬ S k) : w'.ownsRow B e 1 v n xs := by
  refine ⟨h.1, ?_⟩
  rcases h.2 with h2 | ⟨g, cap, cur, rfl, hg, hh, r⟩
  · exact .inl h2
  · have hlt : g < w.heap.size := (Array.getElem?_eq_some_iff.1 hh).1
    exact .inr ⟨g, cap, cur, rfl, hg, (hf.block g hlt (hv g rfl)).trans hh, r⟩
/-- a key as a string's value -/
def strV (k : List Int) : Value := .string (strOfNums k)
/-- a set of keys behind a pointer: its struct in block g (of type T), its keys and its places in rows of its own; S: its blocks -/
structure SetIs (w : World) (T ts ti : TypeId) (g : Nat) (most : Nat) (L : List (List Int)) (p : List Nat) (vL vB : Value) (S : Nat → Prop) : Prop where
  head : w.heap[g]? = some (.cells #[.int .i64 most, vL, vB] T (0, 0))
  rowL : w.ownsRow 0 ts 1 vL L.length (L.map strV)
  rowB : w.ownsRow 0 ti 1 vB p.length (p.map fun (i : Nat) => Value.int .i64 i)
  foot : S g ∧ (∀ k, vL.ownBlock = some k → S k) ∧ (∀ k, vB.ownBlock = some k → S k)
  lt : ∀ k, S k → k < w.heap.size
  ok : Os.Ok L p
  bytes : ∀ x ∈ L, Cd.isB x ∧ x.length ≤ 1000000
  few : L.length ≤ 1000000
section
variable {w w' : World} {T ts ti : TypeId} {g most : Nat} {L : List (List Int)} {p : List Nat} {vL vB : Value} {S : Nat → Prop}
theorem SetIs.fr {S' : Nat → Prop} (h : SetIs w T ts ti g most L p vL vB S) (hf : Fr S' w w') (hd : ∀ k, S k → ¬ S' k) : SetIs w' T ts ti g most L p vL vB S :=
  ⟨(hf.block g (h.lt g h.foot.1) (hd g h.foot.1)).trans h.head, own_fr h.rowL hf (fun k hk => hd k (h.foot.2.1 k hk)), own_fr h.rowB hf (fun k hk => hd k (h.foot.2.2 k hk)), h.foot, fun k hk => Nat.lt_of_lt_of_le (h.lt k hk) hf.size, h.ok, h.bytes, h.few⟩
theorem SetIs.up (h : SetIs w T ts ti g most L p vL vB S) (hb : Below w.heap.size w w') : SetIs w' T ts ti g most L p vL vB S := h.fr (S' := fun _ => False) (Fr.of_below hb) (fun k _ hk => hk)
theorem SetIs.cell (h : SetIs w T ts ti g most L p vL vB S) (j : Nat) : w.cell? ⟨g, j, none⟩ = (#[.int .i64 most, vL, vB] : Array Value)[j]? := cell_of_row w g j _ _ _ h.head
theorem SetIs.slices (h : SetIs w T ts ti g most L p vL vB S) : ∃ AL cL AB cB, vL = .slice AL L.length cL ∧ vB = .slice AB L.length cB ∧ L.length ≤ cL ∧ L.length ≤ cB := by
  obtain ⟨AL, cL, e1, h1, _⟩ := own_slice h.rowL
  obtain ⟨AB, cB, e2, h2, _⟩ := own_slice h.rowB
  rw [h.ok.len] at e2 h2
  exact ⟨AL, cL, AB, cB, e1, e2, h1, h2⟩
/-- what stands at a place of the places, and at that place of the keys -/
theorem SetIs.at_ (h : SetIs w T ts ti g most L p vL vB S) {i : Nat} (hi : i < L.length) : ∃ (AB AL : Addr) (cB cL : Nat), vB = .slice (some AB) L.length cB ∧ vL = .slice (some AL) L.length cL ∧ w.cell? (AB.add i) = some (.int .i64 ((p.getD i 0 : Nat) : Int)) ∧
    p.getD i 0 < L.length ∧ w.cell? (AL.add (p.getD i 0)) = some (.string (strOfNums (Os.keyAt L (p.getD i 0)))) := by
  have hl := h.ok.len
  obtain ⟨AL, cL, e1, h1, _, _, rL⟩ := own_slice h.rowL
  obtain ⟨AB, cB, e2, h2, _, _, rB⟩ := own_slice h.rowB
  rw [hl] at e2
  have hq := h.ok.at_lt (i := i) (by omega)
  obtain ⟨aL, rfl, _, cL'⟩ := rL (by simp; omega)
  obtain ⟨aB, rfl, _, cB'⟩ := rB (by simp; omega)
  refine ⟨aB, aL, cB, cL, e2, e1, cB' i _ ?_, hq, cL' _ _ ?_⟩
  · simp [List.getD, show i < p.length by omega]
  · generalize p.getD i 0 = q at hq
    rw [List.getElem?_map]
    unfold Os.keyAt
    rw [List.getElem?_eq_getElem hq]
    simp [List.getD, hq, strV]
end
theorem Fr.of_grown {w w' : World} {row : Option Nat} (h : w.grownBy w' row) : Fr (fun k => row = some k) w w' := ⟨h.os, h.tape, h.output, h.size, fun k hk hn => h.block k hk (fun e => hn e.symm)⟩
/-- append of one cell to a row: the row's block alone may turn; the new row lies there, or in a new block -/
theorem wp_app1F {P : Program} (w : World) {ops : Array Oper} {rest : List Oper} {o : Oper} {a : Act} {Q : Exit → Act → World → Prop} (hgd : o.guard = none) (s x : Operand) (t : TypeId)
    (ho : o.op = .call { callee := .builtin .append, args := #[s, x], argTypes := #[t, t] })
    (e : TypeId) (i : TypeInfo) (z : Value) (bytes : Nat) (ht : P.underlying t = some (.slice e)) (hi : P.info? e = some i) (hz : i.zero = some z)
    (hsize : i.size = 1) (hby : i.bytes = bytes) (hzs : z.cells.size = 1)
    (v : Value) (n : Nat) (xs : List Value) (hs : a.eval s = v) (hown : w.ownsRow 0 e 1 v n xs)
    (u : Value) (hx : a.eval x = .slice (some ⟨w.heap.size, 0, none⟩) 1 1) (h1 : u.oneCell' = true)
    (hn : n + 1 ≤ 1099511627776) (hbytes : bytes ≤ 64)
    (h : ∀ v' w', w'.ownsRow 0 e 1 v' (n + 1) (xs ++ [u]) → Fr (fun k => v.ownBlock = some k) w w' → (v'.ownBlock = v.ownBlock ∨ ∃ k, v'.ownBlock = some k ∧ w.heap.size ≤ k) → wpList P ops Q rest (a.put o.dst v') w') :
    wpList P ops Q (o :: rest) a (w.alloc (.cells #[u] e)) := by
  refine wpList_append_own_at (w.alloc (.cells #[u] e)) hgd s x t ho 0 e i z 1 bytes ht hi hz hsize hby hzs (by omega) v n xs hs (hown.alloc _) ⟨w.heap.size, 0, none⟩ 1 1 [u] hx rfl
    (cell_one_new w u e) (fun y hy => by simp at hy; rw [hy]; exact h1) (by simp only [maxLen]; omega) ?_ (by omega) fun v' w' h2 h3 _ h5 => h v' w' h2 ?_ ?_
  · have : (n + 1) * bytes ≤ 1099511627776 * 64 := Nat.mul_le_mul hn hbytes
    omega
  · exact (Fr.of_below (S := fun k => v.ownBlock = some k) (upA (up0 w) _)).trans (Fr.of_grown h3) (fun x hx => .inl hx)
  · rcases h5 with h5 | h5
    · exact .inl h5
    · exact .inr ⟨_, h5, by simp⟩
/-- the most that a set takes, of what it is asked for -/
def mostOf (m : Int) : Nat := (min (max m 0) 1000000).toNat
/-- a new set -/
theorem SetIs.new (w : World) (T ts ti : TypeId) (most : Nat) : SetIs (w.alloc (.cells #[.int .i64 most, .slice none 0 0, .slice none 0 0] T)) T ts ti w.heap.size most [] [] (.slice none 0 0) (.slice none 0 0) (fun k => k = w.heap.size) :=
  ⟨heap_alloc_new w _, World.ownsRow_nil _ _ _ _, World.ownsRow_nil _ _ _ _, ⟨rfl, by simp [Value.ownBlock], by simp [Value.ownBlock]⟩, fun k hk => by subst hk; simp, Os.Ok.nil, fun x hx => by simp at hx, by simp⟩
end Go.Proofs.Ytlmchkajlecmeaa
