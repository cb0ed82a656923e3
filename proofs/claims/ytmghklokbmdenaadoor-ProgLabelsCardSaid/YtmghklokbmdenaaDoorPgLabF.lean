/- The texts of ProgLabels, and the programs that they are. -/
import Derived.Test.YtmghklokbmdenaaDoorMgPp
import Derived.Test.YtmghklokbmdenaaDoorWdMath
set_option linter.unusedVariables false
set_option linter.unusedSimpArgs false
namespace Go.Proofs.YtmghklokbmdenaaDoor
open Go.RowKit
def plR (n a who i : Nat) : List UInt8 := (if i = a then [120, 58, 10, 121, 58, 10] else []) ++ (if i = who then [106, 109, 112, 32, 121, 10] else if i < n then [102, 101, 110, 99, 101, 10] else [])
def plS (n a who : Nat) : Nat → List UInt8
  | 0 => [119, 105, 100, 116, 104, 32, 49, 10]
  | i + 1 => plS n a who i ++ plR n a who i
def plChk (n a who : Nat) : Bool := match Pg.parse (plS n a who (n + 1)) with
  | .ok q => Nat.beq q.ins.length n && decide (q.labels = [⟨[120], (a : Int)⟩, ⟨[121], (a : Int)⟩]) && (match q.ins[who]? with
    | some x => decide (x.target = (a : Int)) && decide (x.name = [])
    | none => false) && Pg.shortB q && decide ((Pg.text q).length ≤ 1000000)
  | .error _ => false
def plN (n : Nat) : Bool := (List.range (n + 2)).all fun a => (List.range (n + 1)).all fun who => plChk (n + 1) a who
set_option maxRecDepth 1000000 in
theorem pl_n0 : plN 0 = true := by kernel_rfl
set_option maxRecDepth 1000000 in
theorem pl_n1 : plN 1 = true := by kernel_rfl
set_option maxRecDepth 1000000 in
theorem pl_n2 : plN 2 = true := by kernel_rfl
set_option maxRecDepth 1000000 in
theorem pl_n3 : plN 3 = true := by kernel_rfl
set_option maxRecDepth 1000000 in
theorem pl_n4 : plN 4 = true := by kernel_rfl
set_option maxRecDepth 1000000 in
theorem pl_n5 : plN 5 = true := by kernel_rfl
set_option maxRecDepth 1000000 in
theorem pl_n6 : plN 6 = true := by kernel_rfl
set_option maxRecDepth 1000000 in
theorem pl_n7 : plN 7 = true := by kernel_rfl
set_option maxRecDepth 1000000 in
theorem pl_n8 : plN 8 = true := by kernel_rfl
set_option maxRecDepth 1000000 in
theorem pl_n9 : plN 9 = true := by kernel_rfl
set_option maxRecDepth 1000000 in
theorem pl_n10 : plN 10 = true := by kernel_rfl
set_option maxRecDepth 1000000 in
theorem pl_n11 : plN 11 = true := by kernel_rfl
set_option maxRecDepth 1000000 in
theorem pl_n12 : plN 12 = true := by kernel_rfl
set_option maxRecDepth 1000000 in
theorem pl_n13 : plN 13 = true := by kernel_rfl
set_option maxRecDepth 1000000 in
theorem pl_n14 : plN 14 = true := by kernel_rfl
set_option maxRecDepth 1000000 in
theorem pl_n15 : plN 15 = true := by kernel_rfl
theorem pl_n (n : Nat) (h : n < 16) : plN n = true := match n, h with
  | 0, _ => pl_n0
  | 1, _ => pl_n1
  | 2, _ => pl_n2
  | 3, _ => pl_n3
  | 4, _ => pl_n4
  | 5, _ => pl_n5
  | 6, _ => pl_n6
  | 7, _ => pl_n7
  | 8, _ => pl_n8
  | 9, _ => pl_n9
  | 10, _ => pl_n10
  | 11, _ => pl_n11
  | 12, _ => pl_n12
  | 13, _ => pl_n13
  | 14, _ => pl_n14
  | 15, _ => pl_n15
  | _ + 16, h => absurd h (by omega)
theorem pl_chk {n a who : Nat} (hn : 1 ≤ n ∧ n ≤ 16) (ha : a ≤ n) (hw : who < n) : plChk n a who = true := by
  have h1 := pl_n (n - 1) (by omega)
  unfold plN at h1
  have h2 := List.all_eq_true.1 h1 a (List.mem_range.2 (by omega))
  have h3 := List.all_eq_true.1 h2 who (List.mem_range.2 (by omega))
  rw [show n - 1 + 1 = n by omega] at h3
  exact h3
theorem pl_facts {n a who : Nat} (hn : 1 ≤ n ∧ n ≤ 16) (ha : a ≤ n) (hw : who < n) : ∃ q, Pg.parse (plS n a who (n + 1)) = .ok q ∧ Fit q ∧ q.ins.length = n ∧ q.labels = [⟨[120], (a : Int)⟩, ⟨[121], (a : Int)⟩] ∧ (∃ x, q.ins[who]? = some x ∧ x.target = (a : Int) ∧ x.name = []) ∧
    Pg.printG q = some (Pg.text q) ∧ Pg.parse (Pg.bytes (Pg.text q)) = .ok q ∧ (Pg.bytes (Pg.text q)).length ≤ 1000000 := by
  have h := pl_chk hn ha hw
  unfold plChk at h
  cases hp : Pg.parse (plS n a who (n + 1)) with
  | error e => rw [hp] at h; cases h
  | ok q =>
    rw [hp] at h
    simp only [Bool.and_eq_true, decide_eq_true_eq] at h
    obtain ⟨⟨⟨⟨h1, h2⟩, h3⟩, h4⟩, h5⟩ := h
    have hwf := Pg.parse_wf hp
    refine ⟨q, rfl, wf_fit hwf h4 (by rw [h2]; show 2 ≤ 1000000; omega) h5, Nat.eq_of_beq_eq_true h1, h2, ?_, by rw [print_is, Pg.print_wf textOk hwf], Pg.parse_text textOk hwf, by unfold Pg.bytes; rw [List.length_map]; exact h5⟩
    cases hx : q.ins[who]? with
    | none => rw [hx] at h3; cases h3
    | some x => rw [hx] at h3; simp only [Bool.and_eq_true, decide_eq_true_eq] at h3; exact ⟨x, rfl, h3.1, h3.2⟩
theorem plS_len (n a who : Nat) : ∀ i, (plS n a who i).length ≤ 8 + 12 * i
  | 0 => by show 8 ≤ _; omega
  | i + 1 => by
    have := plS_len n a who i
    have h2 : (plR n a who i).length ≤ 12 := by unfold plR; rw [List.length_append]; split <;> split <;> (try split) <;> decide
    rw [plS, List.length_append]; omega
theorem ba_of {s : ByteArray} {l : List UInt8} (h : s.data.toList = l) : s = ⟨l.toArray⟩ := by
  obtain ⟨d⟩ := s
  subst h
  simp
end Go.Proofs.YtmghklokbmdenaaDoor
