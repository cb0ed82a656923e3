/- An argument that is a list of rows of bytes, opened into plain words. -/
import Derived.Test.YtlmchkajlecmeaaShell
import Derived.Test.YtlmchkajlecmeaaCdMath
import Derived.Deep.Matrix
set_option linter.unusedVariables false
set_option linter.unusedSimpArgs false
namespace Go.Proofs.Ytlmchkajlecmeaa
open Go.ChangeShapes Go.WideShapes Go.ChangeAt Go.RowKit
theorem weightsAll_mem {H : Type} {P : Program} {e : TypeId} {d : DataW H} {n : Nat} : ∀ {l : List (DataW H)}, d ∈ l → n ∈ d.weights P e → n ∈ DataW.weightsAll P e l
  | x :: l, hd, hn => by
    simp only [DataW.weightsAll, List.mem_append]
    rcases List.mem_cons.1 hd with rfl | hd
    · exact .inl hn
    · exact .inr (weightsAll_mem hd hn)
/-- slices in a row, each of which reads as bytes; all below block B -/
def Kys (w : World) (B : Nat) (A : Option Addr) (l : List (List Int)) : Prop := 0 < l.length → ∃ ad, A = some ad ∧ ad.block < B ∧ ∀ (i : Nat) (x : List Int), l[i]? = some x → ∃ (Ai : Option Addr) (c : Nat), w.cell? (ad.add i) = some (.slice Ai x.length c) ∧ x.length ≤ c ∧ c ≤ maxLen ∧ Rd w B Ai (x.map (Value.int .u8)) ∧ Cd.isB x ∧ x.length ≤ 140737488351232
theorem Kys.below {w w' : World} {B : Nat} {A : Option Addr} {l : List (List Int)} (h : Kys w B A l) (hb : Below B w w') : Kys w' B A l := fun hn => by
  obtain ⟨ad, e, h1, h2⟩ := h hn
  refine ⟨ad, e, h1, fun i x hx => ?_⟩
  obtain ⟨Ai, c, k1, k2, k3, k4, k5⟩ := h2 i x hx
  exact ⟨Ai, c, (hb.cell (by rw [adr_block]; exact h1)).trans k1, k2, k3, k4.below hb (Nat.le_refl _), k5⟩
theorem Kys.at_ {w : World} {B : Nat} {A : Option Addr} {l : List (List Int)} (h : Kys w B A l) {i : Nat} (hi : i < l.length) : ∃ (ad : Addr) (Ai : Option Addr) (c : Nat), A = some ad ∧ ad.block < B ∧ w.cell? (ad.add i) = some (.slice Ai (l.getD i []).length c) ∧ (l.getD i []).length ≤ c ∧ c ≤ maxLen ∧ Rd w B Ai ((l.getD i []).map (Value.int .u8)) ∧ Cd.isB (l.getD i []) ∧ (l.getD i []).length ≤ 140737488351232 := by
  obtain ⟨ad, e, h1, h2⟩ := h (by omega)
  obtain ⟨Ai, c, k⟩ := h2 i (l.getD i []) (by simp [List.getD, hi])
  exact ⟨ad, Ai, c, e, h1, k⟩
section
variable {H : Type} {enc : TypeId × Value → H} {P : Program} {w : World}
theorem open_keys {t e q : TypeId} {v : Value} {d : DataW H} {p : List MemPlace} {base : Nat} (ht : P.underlying t = some (.slice e)) (he : P.underlying e = some (.slice q)) (hq : P.underlying q = some (.int .u8)) (ce : P.cellsOf e = 1) (cq : P.cellsOf q = 1) (hby : 1 ≤ P.bytesOf q)
    {ts : List TypeId} {ds : List (DataW H)} (hsz : (DataW.weightsEach P ts ds).all (· ≤ reachBytes) = true) {j : Nat} (htj : ts[j]? = some t) (hdj : ds[j]? = some d)
    (hval : Value.okWide P w .any base t v) (h : DataW.Trod enc P w 0 (fun _ => true) true t v d p) :
    ∃ (A : Option Addr) (c : Nat) (l : List (List Int)), v = .slice A l.length c ∧ l.length ≤ c ∧ c ≤ maxLen ∧ Kys w w.heap.size A l := by
  obtain ⟨a0, l0, c0, rfl⟩ := okWide_slice ht hval
  obtain ⟨fuel, hf⟩ := h
  rcases Deep.open_int_rows ht he hq ce cq hf with ⟨h1, _⟩ | ⟨a, len, cap, A, L, C, Z, h1, _, hlc, hcm, hd, hx⟩
  · refine ⟨none, 0, [], ?_, by simp, by simp [maxLen], fun hn => by simp at hn⟩
    simpa [Value.cells] using h1
  · refine ⟨some a, cap, (List.range len).map (fun r => (Z r).take (L r)), ?_, by simpa using hlc, hcm, fun hn => ?_⟩
    · rw [List.length_map, List.length_range]
      simpa [Value.cells] using h1
    · have hlen : 0 < len := by simpa using hn
      have hb : a.block < w.heap.size := by
        have := World.block_lt_of_cell? w (a.add 0) (hx 0 (by omega)).1
        rwa [adr_block] at this
      refine ⟨a, rfl, hb, fun i x hi => ?_⟩
      rw [List.getElem?_map] at hi
      obtain ⟨r, hr, rfl⟩ := Option.map_eq_some_iff.1 hi
      have hr' : i < len ∧ r = i := by
        rw [List.getElem?_eq_some_iff] at hr
        obtain ⟨h1, h2⟩ := hr
        simp at h1 h2
        exact ⟨h1, h2.symm⟩
      obtain ⟨hil, rfl⟩ := hr'
      obtain ⟨k1, k2, k3, k4, k5, k6, k7⟩ := hx r (by omega)
      have hl : ((Z r).take (L r)).length = L r := by rw [List.length_take]; omega
      have hbig : L r ≤ 140737488351232 := by
        cases hA : A r with
        | none => have := k6 hA; omega
        | some ad =>
          have hd1 : d = .slice ((List.range len).map fun r => Deep.intRow .u8 (A r) (L r) (Z r)) ((List.range (cap - len)).map fun j => Deep.intRow .u8 (A (len + j)) (L (len + j)) (Z (len + j))) := congrArg Prod.fst hd
          have hw : ((lits .u8 ((Z r).take (L r)) : List (DataW H)).length + (lits .u8 ((Z r).drop (L r)) : List (DataW H)).length) * P.bytesOf q ∈ d.weights P t := by
            rw [hd1]
            simp only [DataW.weights, ht]
            refine List.mem_cons_of_mem _ (List.mem_append.2 (.inl ?_))
            refine weightsAll_mem (d := Deep.intRow .u8 (A r) (L r) (Z r)) (List.mem_map.2 ⟨r, List.mem_range.2 hil, rfl⟩) ?_
            simp [Deep.intRow, hA, DataW.weights, he]
          have := List.all_eq_true.1 hsz _ (DataW.weights_mem_each htj hdj _ hw)
          simp only [lits, List.length_map, List.length_take, List.length_drop, reachBytes, decide_eq_true_eq] at this
          have h3 : L r * 1 ≤ (min (L r) (Z r).length + ((Z r).length - L r)) * P.bytesOf q := Nat.mul_le_mul (by omega) hby
          omega
      refine ⟨A r, C r, by rw [hl]; exact k1, by rw [hl]; exact k2, k3, fun hp => ?_, fun z hz => ?_, by rw [hl]; exact hbig⟩
      · rw [List.length_map, hl] at hp
        cases hA : A r with
        | none => have := k6 hA; omega
        | some ad =>
          obtain ⟨_, hc⟩ := k7 ad hA
          have hcell : ∀ j u, (((Z r).take (L r)).map (Value.int .u8))[j]? = some u → w.cell? (ad.add j) = some u := by
            intro j u hu
            have hj := (List.getElem?_eq_some_iff.1 hu).1
            rw [List.length_map, hl] at hj
            rw [hc j (by omega)]
            rw [List.getElem?_map, List.getElem?_take, if_pos (by omega)] at hu
            simpa [List.getD, show j < (Z r).length by omega] using hu
          refine ⟨ad, rfl, ?_, hcell⟩
          have := World.block_lt_of_cell? w (ad.add 0) (hcell 0 _ (List.getElem?_eq_getElem (by rw [List.length_map, hl]; exact hp)))
          rwa [adr_block] at this
      · have := bounds_u8 (k5 z (List.mem_of_mem_take hz))
        omega
end
end Go.Proofs.Ytlmchkajlecmeaa
