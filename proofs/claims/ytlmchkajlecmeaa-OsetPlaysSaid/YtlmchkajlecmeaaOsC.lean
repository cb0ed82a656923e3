/- Words for the program's own set of keys in memory: a struct, a row of keys, a map of places, a row of runs. -/
import Derived.Test.YtlmchkajlecmeaaOsMem
import Derived.Test.YtlmchkajlecmeaaOsMath2
import Derived.Test.YtlmchkajlecmeaaRefLess
import Derived.Maps.OwnSet
set_option linter.unusedVariables false
set_option linter.unusedSimpArgs false
namespace Go.Proofs.Ytlmchkajlecmeaa
open Go.RowKit
/-- slices that read as rows of numbers, each in a block of S that is none of Z -/
def Segs (w : World) (S Z : Nat → Prop) (kd : IntKind) (L : List (List Int)) (VS : List Value) : Prop :=
  VS.length = L.length ∧ ∀ (i : Nat) (z : List Int), L[i]? = some z → ∃ (A : Option Addr) (c : Nat), VS[i]? = some (Value.slice A z.length c) ∧ z.length ≤ c ∧ c ≤ maxLen ∧ Rd w w.heap.size A (z.map (Value.int kd)) ∧ ∀ ad, 0 < z.length → A = some ad → S ad.block ∧ ¬ Z ad.block
theorem Rd.fr0 {S : Nat → Prop} {w w' : World} {A : Option Addr} {xs : List Value} (h : Rd w w.heap.size A xs) (hf : Fr S w w') (hA : ∀ ad, 0 < xs.length → A = some ad → ¬ S ad.block) : Rd w' w'.heap.size A xs := by
  rcases Nat.eq_zero_or_pos xs.length with h0 | h0
  · intro hn; omega
  · exact h.fr hf (fun ad e => hA ad h0 e)
section
variable {w w' : World} {S S' Z Z' T : Nat → Prop} {kd : IntKind} {L : List (List Int)} {VS : List Value}
theorem Segs.nil : Segs w S Z kd [] [] := ⟨rfl, fun i z h => by simp at h⟩
theorem Segs.fr (h : Segs w S Z kd L VS) (hf : Fr T w w') (hd : ∀ k, S k → ¬ Z k → ¬ T k) : Segs w' S Z kd L VS :=
  ⟨h.1, fun i z hz => by
    obtain ⟨A, c, h1, h2, h3, h4, h5⟩ := h.2 i z hz
    exact ⟨A, c, h1, h2, h3, h4.fr0 hf (fun ad hn e => by have := h5 ad (by simpa using hn) e; exact hd _ this.1 this.2), h5⟩⟩
theorem Segs.wider (h : Segs w S Z kd L VS) (hd : ∀ k, k < w.heap.size → S k → ¬ Z k → S' k ∧ ¬ Z' k) : Segs w S' Z' kd L VS :=
  ⟨h.1, fun i z hz => by
    obtain ⟨A, c, h1, h2, h3, h4, h5⟩ := h.2 i z hz
    refine ⟨A, c, h1, h2, h3, h4, fun ad hn e => ?_⟩
    have := h5 ad hn e
    obtain ⟨ad', e', hb, _⟩ := h4 (by simpa using hn)
    rw [e] at e'
    cases e'
    exact hd _ hb this.1 this.2⟩
theorem Segs.snoc (h : Segs w S Z kd L VS) {A : Option Addr} {c : Nat} {z : List Int} (h1 : z.length ≤ c) (h2 : c ≤ maxLen) (h3 : Rd w w.heap.size A (z.map (Value.int kd))) (h4 : ∀ ad, 0 < z.length → A = some ad → S ad.block ∧ ¬ Z ad.block) :
    Segs w S Z kd (L ++ [z]) (VS ++ [.slice A z.length c]) :=
  ⟨by simp [h.1], fun i y hy => by
    rw [List.getElem?_append] at hy ⊢
    rw [h.1]
    split at hy
    · rename_i hi
      rw [if_pos hi]
      exact h.2 i y hy
    · rename_i hi
      rw [if_neg hi]
      have : i - L.length = 0 := by
        have := (List.getElem?_eq_some_iff.1 hy).1
        simp at this; omega
      rw [this] at hy ⊢
      simp at hy
      subst hy
      exact ⟨A, c, rfl, h1, h2, h3, h4⟩⟩
theorem Segs.take (h : Segs w S Z kd L VS) (n : Nat) : Segs w S Z kd (L.take n) (VS.take n) :=
  ⟨by simp [h.1], fun i z hz => by
    rw [List.getElem?_take] at hz ⊢
    split at hz
    · rename_i hi
      rw [if_pos hi]
      exact h.2 i z hz
    · cases hz⟩
end
/-- the blocks of a set that are written in place -/
def Wr (g b : Nat) (vK vR : Value) (k : Nat) : Prop := k = g ∨ k = b ∨ vK.ownBlock = some k ∨ vR.ownBlock = some k
/-- a key, as a map's reader has it -/
def klit (k : List Int) : Lit := .string (strOfNums k).data.toList
theorem klit_ne {j k : List Int} (hj : Cd.isB j) (hk : Cd.isB k) (h : j ≠ k) : klit j ≠ klit k := by
  intro e
  apply h
  unfold klit at e
  simp only [Lit.string.injEq] at e
  exact Cd.bytesOf_inj hj hk (by rw [← strOfNums_toList', ← strOfNums_toList']; simpa [ByteArray.toList_eq] using e)
theorem klit_key (k : List Int) : WideAt.IsKeyLit (klit k) := by simp [klit, WideAt.IsKeyLit]
/-- a map of places holds each key's -/
def MapOk (D : DataW Unit) (L : List (List Int)) : Prop := ∀ k, Cd.isB k → Maps.has D (klit k) = (Os.idx L k).isSome ∧ D.atKey (klit k) (.lit (.int .i64 0)) = .lit (.int .i64 (((Os.idx L k).getD 0 : Nat) : Int))
theorem MapOk.nil : MapOk (.map []) [] := fun k _ => ⟨rfl, rfl⟩
theorem MapOk.put {D : DataW Unit} {L : List (List Int)} (h : MapOk D L) (hD : Maps.IsMap D) {k : List Int} (hk : Cd.isB k) (hn : Os.idx L k = none) : MapOk (D.put (klit k) (.lit (.int .i64 (L.length : Int)))) (L ++ [k]) := fun j hj => by
  by_cases e : j = k
  · subst e
    rw [Maps.has_put_same hD (klit_key _), Maps.atKey_put_same hD (klit_key _), Os.idx_snoc_new hn]
    exact ⟨rfl, rfl⟩
  · rw [Maps.has_put_other (klit_ne hj hk e), Maps.atKey_put_other (klit_ne hj hk e), Os.idx_snoc_other e]
    exact h j hj
/-- places as numbers -/
def intsOf (r : List Nat) : List Int := r.map fun (i : Nat) => (i : Int)
theorem intsOf_len (r : List Nat) : (intsOf r).length = r.length := by simp [intsOf]
/-- the program's set of keys behind a pointer: its struct in block g, its map in block b; rk: the number in its struct, m: how many of the keys are in runs -/
structure CsIs (w : World) (g b most rk m : Nat) (L : List (List Int)) (R : List (List Nat)) (vK vR : Value) (KS RS : List Value) (S : Nat → Prop) : Prop where
  head : w.heap[g]? = some (.cells #[.int .i64 most, vK, .map (some b), .int .i64 rk, vR] 50 (0, 0))
  rowK : w.ownsRow 0 25 1 vK L.length KS
  keys : Segs w S (Wr g b vK vR) .u8 L KS
  map : ∃ D : DataW Unit, w.ownsMap Try.prog 9 (plainElem Try.prog 3) b L.length D ∧ MapOk D L
  rowR : w.ownsRow 0 38 1 vR R.length RS
  segs : Segs w S (Wr g b vK vR) .i64 (R.map intsOf) RS
  foot : ∀ k, Wr g b vK vR k → S k
  lt : ∀ k, S k → k < w.heap.size
  runs : Os.Runs L m R
  nodup : L.Nodup
  bytes : ∀ x ∈ L, Cd.isB x ∧ x.length ≤ 140737488351232
  few : L.length ≤ 1000000
  most : most ≤ 1000000
  rkle : rk ≤ L.length
theorem map_fr {w w' : World} {T : Nat → Prop} {H : Type} {P : Program} {k : TypeId} {R : Value → Option (DataW H × List MemPlace)} {b n : Nat} {D : DataW H} (h : w.ownsMap P k R b n D) (hf : Fr T w w') (hb : ¬ T b) : w'.ownsMap P k R b n D := by
  have hlt := h.lt
  obtain ⟨es, clock, hb', r⟩ := h
  exact ⟨es, clock, (hf.block b hlt hb).trans hb', r⟩
section
variable {w w' : World} {g b most rk m : Nat} {L : List (List Int)} {R : List (List Nat)} {vK vR : Value} {KS RS : List Value} {S T : Nat → Prop}
theorem CsIs.fr (h : CsIs w g b most rk m L R vK vR KS RS S) (hf : Fr T w w') (hd : ∀ k, S k → ¬ T k) : CsIs w' g b most rk m L R vK vR KS RS S := by
  obtain ⟨D, hm, hM⟩ := h.map
  exact ⟨(hf.block g (h.lt g (h.foot g (.inl rfl))) (hd g (h.foot g (.inl rfl)))).trans h.head, own_fr h.rowK hf (fun k hk => hd k (h.foot k (.inr (.inr (.inl hk))))), h.keys.fr hf (fun k hk _ => hd k hk),
    ⟨D, map_fr hm hf (hd b (h.foot b (.inr (.inl rfl)))), hM⟩, own_fr h.rowR hf (fun k hk => hd k (h.foot k (.inr (.inr (.inr hk))))), h.segs.fr hf (fun k hk _ => hd k hk), h.foot, fun k hk => Nat.lt_of_lt_of_le (h.lt k hk) hf.size,
    h.runs, h.nodup, h.bytes, h.few, h.most, h.rkle⟩
theorem CsIs.up (h : CsIs w g b most rk m L R vK vR KS RS S) (hb : Below w.heap.size w w') : CsIs w' g b most rk m L R vK vR KS RS S := h.fr (T := fun _ => False) (Fr.of_below hb) (fun k _ hk => hk)
theorem CsIs.cell (h : CsIs w g b most rk m L R vK vR KS RS S) (j : Nat) : w.cell? ⟨g, j, none⟩ = (#[.int .i64 most, vK, .map (some b), .int .i64 rk, vR] : Array Value)[j]? := cell_of_row w g j _ _ _ h.head
theorem CsIs.gS (h : CsIs w g b most rk m L R vK vR KS RS S) : S g := h.foot g (.inl rfl)
theorem CsIs.glt (h : CsIs w g b most rk m L R vK vR KS RS S) : g < w.heap.size := h.lt g h.gS
/-- what the map answers -/
theorem CsIs.look (h : CsIs w g b most rk m L R vK vR KS RS S) {k : List Int} (hk : Cd.isB k) (hl : k.length ≤ 140737488351232) :
    (Instr.lookup 47 (.map (some b)) (.string (strOfNums k)) true).run Try.prog w = .ok (.tuple #[.int .i64 (((Os.idx L k).getD 0 : Nat) : Int), .bool (Os.idx L k).isSome]) w := by
  obtain ⟨D, hm, hM⟩ := h.map
  obtain ⟨hhas, hat⟩ := hM k hk
  have hs : (strOfNums k).size = k.length := strOfNums_size k
  have hkey : keyOf Try.prog 9 (.string (strOfNums k)) = some (klit k) := WideMaps.keyOf_string_mk Try.underlying9 (by rw [hs]; simp only [maxLen]; omega)
  obtain ⟨v, ps, hrun, hv⟩ := hm.look_ok (t := 47) (e := 3) (Maps.string_keyed Try.underlying9) Try.underlying47 (z := .int .i64 0) (by kernel_rfl) (zd := .lit (.int .i64 0)) (zp := []) (plainElem_int Try.underlying3 (by decide)) hkey
  obtain ⟨c, rfl, hc, _⟩ := plainElem_int_inv Try.underlying3 hv
  rw [hat] at hc
  simp only [Prod.mk.injEq, DataW.lit.injEq, Lit.int.injEq, true_and] at hc
  rw [hrun, hhas, hc.1]
/-- the slices of keys and of runs -/
theorem CsIs.sliceK (h : CsIs w g b most rk m L R vK vR KS RS S) : ∃ A c, vK = .slice A L.length c ∧ L.length ≤ c ∧ c ≤ maxLen ∧ Rd w w.heap.size A KS := by
  obtain ⟨A, c, e, h1, h2, _, h3⟩ := own_slice h.rowK
  exact ⟨A, c, e, h1, h2, h3⟩
theorem CsIs.sliceR (h : CsIs w g b most rk m L R vK vR KS RS S) : ∃ A c, vR = .slice A R.length c ∧ R.length ≤ c ∧ c ≤ maxLen ∧ Rd w w.heap.size A RS := by
  obtain ⟨A, c, e, h1, h2, _, h3⟩ := own_slice h.rowR
  exact ⟨A, c, e, h1, h2, h3⟩
/-- the key at a place -/
theorem CsIs.keyAt (h : CsIs w g b most rk m L R vK vR KS RS S) {i : Nat} (hi : i < L.length) : ∃ (aK : Addr) (cK : Nat) (A : Option Addr) (c : Nat), vK = .slice (some aK) L.length cK ∧ L.length ≤ cK ∧ w.cell? (aK.add i) = some (.slice A (Os.keyAt L i).length c) ∧
    Rd w w.heap.size A ((Os.keyAt L i).map (Value.int .u8)) ∧ (Os.keyAt L i).length ≤ c ∧ c ≤ maxLen ∧ Cd.isB (Os.keyAt L i) ∧ (Os.keyAt L i).length ≤ 140737488351232 := by
  obtain ⟨A, cK, e, h1, h2, h3⟩ := h.sliceK
  have hz : L[i]? = some (Os.keyAt L i) := by simp [Os.keyAt, List.getD, hi]
  obtain ⟨A', c', k1, k2, k3, k4, k5⟩ := h.keys.2 i _ hz
  have hlen := h.keys.1
  obtain ⟨aK, rfl, _, hc⟩ := h3 (by omega)
  have hm := h.bytes _ (List.mem_of_getElem? hz)
  exact ⟨aK, cK, A', c', e, h1, hc i _ k1, k4, k2, k3, hm.1, hm.2⟩
/-- the run at a place -/
theorem CsIs.runAt (h : CsIs w g b most rk m L R vK vR KS RS S) {j : Nat} (hj : j < R.length) : ∃ (aR : Addr) (cR : Nat) (A : Option Addr) (c : Nat), vR = .slice (some aR) R.length cR ∧ R.length ≤ cR ∧ w.cell? (aR.add j) = some (.slice A (R.getD j []).length c) ∧
    Rd w w.heap.size A ((intsOf (R.getD j [])).map (Value.int .i64)) ∧ (R.getD j []).length ≤ c ∧ c ≤ maxLen ∧ R.getD j [] ∈ R ∧ ∀ ad, 0 < (R.getD j []).length → A = some ad → S ad.block ∧ ¬ Wr g b vK vR ad.block := by
  obtain ⟨A, cR, e, h1, h2, h3⟩ := h.sliceR
  have hz : R[j]? = some (R.getD j []) := by simp [List.getD, hj]
  have hz2 : (R.map intsOf)[j]? = some (intsOf (R.getD j [])) := by rw [List.getElem?_map, hz]; rfl
  obtain ⟨A', c', k1, k2, k3, k4, k5⟩ := h.segs.2 j _ hz2
  rw [intsOf_len] at k1 k2 k5
  have hlen := h.segs.1
  rw [List.length_map] at hlen
  obtain ⟨aR, rfl, _, hc⟩ := h3 (by omega)
  exact ⟨aR, cR, A', c', e, h1, hc j _ k1, k4, k2, k3, List.mem_of_getElem? hz, k5⟩
end
/-- the program's set, told from outside -/
def CSet (w : World) (g most : Nat) (L : List (List Int)) (S : Nat → Prop) : Prop := ∃ b rk R vK vR KS RS, CsIs w g b most rk rk L R vK vR KS RS S
/-- the document's set, told from outside -/
def RSet (w : World) (g most : Nat) (L : List (List Int)) (S : Nat → Prop) : Prop := ∃ p vL vB, SetIs w 45 9 3 g most L p vL vB S
theorem CSet.fr {w w' : World} {g most : Nat} {L : List (List Int)} {S T : Nat → Prop} (h : CSet w g most L S) (hf : Fr T w w') (hd : ∀ k, S k → ¬ T k) : CSet w' g most L S := by
  obtain ⟨b, rk, R, vK, vR, KS, RS, h⟩ := h
  exact ⟨b, rk, R, vK, vR, KS, RS, h.fr hf hd⟩
theorem RSet.fr {w w' : World} {g most : Nat} {L : List (List Int)} {S T : Nat → Prop} (h : RSet w g most L S) (hf : Fr T w w') (hd : ∀ k, S k → ¬ T k) : RSet w' g most L S := by
  obtain ⟨p, vL, vB, h⟩ := h
  exact ⟨p, vL, vB, h.fr hf hd⟩
theorem CSet.up {w w' : World} {g most : Nat} {L : List (List Int)} {S : Nat → Prop} (h : CSet w g most L S) (hb : Below w.heap.size w w') : CSet w' g most L S := h.fr (T := fun _ => False) (Fr.of_below hb) (fun k _ hk => hk)
theorem RSet.up {w w' : World} {g most : Nat} {L : List (List Int)} {S : Nat → Prop} (h : RSet w g most L S) (hb : Below w.heap.size w w') : RSet w' g most L S := h.fr (T := fun _ => False) (Fr.of_below hb) (fun k _ hk => hk)
/-- what a call on a set leaves: it answers v; what I says holds of the set, with a foot of its own that has grown by new blocks alone; all else is as it was -/
def SetPost (I : World → (Nat → Prop) → Prop) (S : Nat → Prop) (v : Value) (w : World) (e : Ending) (w' : World) : Prop :=
  e = .returned v ∧ ∃ S', I w' S' ∧ Fr S w w' ∧ ∀ k, S' k → S k ∨ w.heap.size ≤ k
end Go.Proofs.Ytlmchkajlecmeaa
