/- Rows of numbers: joined, copied, told in bytes: contracts taken over. -/
import Derived.Test.YtdbnfdcjibgikaaRx25
import Derived.Test.YtdbnfdcjibgikaaCat
import Derived.Test.YtdbnfdcjibgikaaRPut
set_option linter.unusedVariables false
set_option linter.unusedSimpArgs false
namespace Go.Proofs.Ytdbnfdcjibgikaa.Px
open Go.RowKit Go.Proofs.Ytdbnfdcjibgikaa.Rx
def rowI (l : List Int) : Nat → Nat → AV := fun i _ => .int .i64 (l.getD i 0)
def rowB (l : List Int) : Nat → Nat → AV := fun i _ => .int .u8 (l.getD i 0)
def blkI (l : List Int) : Blk := ⟨0, false, 3, .rows 1 l.length (rowI l)⟩
def blkB (l : List Int) : Blk := ⟨0, false, 5, .rows 1 l.length (rowB l)⟩
/-- a slice that reads as these numbers -/
def PartOk (a : AV) (l : List Int) : Prop := (a = .nils ∧ l = []) ∨ ∃ g, a = .row 1 l.length g ∧ ∀ i, i < l.length → g i 0 = .int .i64 (l.getD i 0)
theorem PartOk.nil : PartOk .nils [] := .inl ⟨rfl, rfl⟩
theorem PartOk.row (l : List Int) : PartOk (.row 1 l.length (rowI l)) l := .inr ⟨_, rfl, fun _ _ => rfl⟩
theorem PartOk.rep {w : World} {R : Nat → Prop} {a : AV} {l : List Int} {v : Value} (h : PartOk a l) (hr : RepP w R a v) (hR : ∀ g, R g → g < w.heap.size) : ∃ A c, v = .slice A l.length c ∧ Rd w w.heap.size A (l.map (Value.int .i64)) := by
  rcases h with ⟨rfl, rfl⟩ | ⟨g, rfl, hg⟩
  · cases hr with
    | nils => exact ⟨none, 0, rfl, Rd.nil⟩
  · obtain ⟨A, c, e, _, _, h⟩ := hr.ints hR rfl hg
    exact ⟨A, c, e, h⟩
theorem one_arg {args : List AV} {vs : Array Value} {a : AV} (h : args = [a]) (hl : args.length = vs.size) {w : World} {R : Nat → Prop} (ha : ∀ (j : Nat) a v, args[j]? = some a → vs[j]? = some v → RepP w R a v) : ∃ v, vs = #[v] ∧ RepP w R a v := by
  subst h
  obtain ⟨vs⟩ := vs
  match vs, hl with
  | [v], _ => exact ⟨v, rfl, ha 0 a v rfl rfl⟩
theorem cloneC {a : AV} {l : List Int} (h : PartOk a l) (hl : l.length ≤ 1000000) : PureC Try.prog 38 [a] (.own 0 0 1 0 l.length) [blkI l] :=
  PureC.ofOwn (k := .i64) (l := l) rfl (fun _ _ => rfl) fun w R vs hR hn ha => by
    obtain ⟨v, rfl, hv⟩ := one_arg rfl hn ha
    obtain ⟨A, c, rfl, hr⟩ := h.rep hv hR
    exact clone_any A _ c l w rfl hr hl
theorem putC {a : AV} {l : List Int} (h : PartOk a l) (hl : l.length ≤ 1000000) (hi : Cd.isI l) : PureC Try.prog 27 [a] (.own 0 0 1 0 (Cd.putL l).length) [blkB (Cd.putL l)] :=
  PureC.ofOwn (k := .u8) (l := Cd.putL l) rfl (fun _ _ => rfl) fun w R vs hR hn ha => by
    obtain ⟨v, rfl, hv⟩ := one_arg rfl hn ha
    obtain ⟨A, c, rfl, hr⟩ := h.rep hv hR
    exact Put_any A _ c l w rfl hr hi hl
theorem rputC {a : AV} {l : List Int} (h : PartOk a l) (hl : l.length ≤ 1000000) (hi : Cd.isI l) : PureC Try.prog 20 [a] (.own 0 0 1 0 (Cd.putL l).length) [blkB (Cd.putL l)] :=
  PureC.ofOwn (k := .u8) (l := Cd.putL l) rfl (fun _ _ => rfl) fun w R vs hR hn ha => by
    obtain ⟨v, rfl, hv⟩ := one_arg rfl hn ha
    obtain ⟨A, c, rfl, hr⟩ := h.rep hv hR
    exact rPut_any A _ c l w rfl hr hi hl
def partV : Value → Option Addr × Nat
  | .slice A _ c => (A, c)
  | _ => (none, 0)
theorem allP_flat (l : List Part) : allP l = (l.map (·.2.2)).flatten := by
  induction l with
  | nil => rfl
  | cons p l ih => simp [allP, ih]
theorem concatC {f : Nat → Nat → AV} {L : List (List Int)} (h : ∀ i, i < L.length → PartOk (f i 0) (L.getD i [])) (h0 : 0 < L.flatten.length) (ht : L.flatten.length ≤ 1000000) (hL : L.length ≤ 1000) :
    PureC Try.prog 26 [.row 1 L.length f] (.own 0 0 1 0 L.flatten.length) [blkI L.flatten] :=
  PureC.ofOwn (k := .i64) (l := L.flatten) rfl (fun _ _ => rfl) fun w R vs hR hn ha => by
    obtain ⟨v, rfl, hv⟩ := one_arg rfl hn ha
    cases hv with
    | row A cap u hnc hc hA h1 hu =>
      let l : List Part := (List.range L.length).map fun i => ((partV (u i 0)).1, (partV (u i 0)).2, L.getD i [])
      have hll : l.length = L.length := by simp [l]
      have hfl : l.map (·.2.2) = L := by
        apply List.ext_getElem (by simp [l])
        intro i h1 h2
        simp [l, List.getD, h2]
      have hall : allP l = L.flatten := by rw [allP_flat, hfl]
      have hpt : ∀ i, i < L.length → l.getD i pd = ((partV (u i 0)).1, (partV (u i 0)).2, L.getD i []) := fun i hi => by
        simp [l, List.getD, hi]
      have hui : ∀ i, i < L.length → u i 0 = Part.v (l.getD i pd) ∧ Rd w w.heap.size (l.getD i pd).1 ((l.getD i pd).2.2.map (Value.int .i64)) := fun i hi => by
        obtain ⟨A', c', e, hr⟩ := (h i hi).rep (hu i hi 0 (by omega)) hR
        rw [hpt i hi, e]
        exact ⟨rfl, hr⟩
      have htot : tot l = L.flatten.length := by rw [← allP_len, hall]
      rw [← hall]
      refine concat_any A _ cap l w hll.symm (fun hl => ?_) (fun i hi => (hui i (by omega)).2) (by omega) (by omega) (by omega)
      rw [List.length_map, hll] at hl
      obtain ⟨g, o, rfl, hg, hcell⟩ := hA (by omega)
      refine ⟨⟨g, o, none⟩, rfl, hR g hg, fun j x hx => ?_⟩
      have hj : j < L.length := by
        have := (List.getElem?_eq_some_iff.1 hx).1
        simpa [hll] using this
      rw [show Addr.add ⟨g, o, none⟩ j = ⟨g, o + j, none⟩ from adr_mk g o j]
      have h4 := hcell j hj 0 (by omega)
      rw [show o + (j * 1 + 0) = o + j by omega] at h4
      rw [h4, (hui j hj).1]
      rw [List.getElem?_map, List.getElem?_eq_getElem (by omega), Option.map_some, Option.some.injEq] at hx
      rw [← hx]
      simp [List.getD, hj, hll]
end Go.Proofs.Ytdbnfdcjibgikaa.Px
