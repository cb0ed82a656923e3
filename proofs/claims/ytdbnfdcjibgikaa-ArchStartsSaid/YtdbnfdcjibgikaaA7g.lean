/- Rows of numbers held against each other. -/
import Derived.Test.YtdbnfdcjibgikaaA7f
set_option linter.unusedVariables false
set_option linter.unusedSimpArgs false
set_option maxRecDepth 100000
namespace Go.Proofs.Ytdbnfdcjibgikaa.Px
open Go.RowKit Go.Proofs.Ytdbnfdcjibgikaa.Rx
def eqI (l l' : List Int) : Bool := decide (l = l')
def eS (l l' : List Int) (k : Nat) : Sm := ⟨[(12, .int .i64 l.length), (0, .row 1 l.length (rowI l)), (1, .row 1 l'.length (rowI l')), (13, .int .i64 k)], [], 0⟩
def eR : Sm := ⟨[(4, .bool false)], [], 0⟩
theorem diff_at : ∀ (l l' : List Int), l.length = l'.length → l ≠ l' → ∃ k, k < l.length ∧ (∀ i, i < k → l.getD i 0 = l'.getD i 0) ∧ l.getD k 0 ≠ l'.getD k 0
  | [], [], _, h => absurd rfl h
  | a :: l, b :: l', hl, h => by
    by_cases hab : a = b
    · subst hab
      obtain ⟨k, h1, h2, h3⟩ := diff_at l l' (by simpa using hl) (fun e => h (by rw [e]))
      refine ⟨k + 1, by simpa using h1, fun i hi => ?_, by simpa using h3⟩
      cases i with
      | zero => rfl
      | succ i => simpa using h2 i (by omega)
    · exact ⟨0, by simp, fun i hi => by omega, by simpa using hab⟩
theorem e_step (l l' : List Int) (k : Nat) (hk : k < l.length) (hl : l.length = l'.length) (hb : l.length < 1000000000) (he : l.getD k 0 = l'.getD k 0) : Vc (vcC Try.prog false (ntOf Try.prog 37) (lpC Try.prog 37 0) (eS l l' k) [.b true, .b false] .nrm [] (eS l l' (k + 1))) :=
  vc_of (q := (decide ((↑k : Int) < (↑(List.length l) : Int)) = true) ∧ ((0 : Int) ≤ (↑k : Int) ∧ (↑k : Int) < (↑(List.length l) : Int)) ∧ ((0 : Int) ≤ (↑k : Int) ∧ (↑k : Int) < (↑(List.length l') : Int)) ∧ ((List.getD l k (0 : Int) != List.getD l' k (0 : Int)) = false) ∧ (inK IntKind.i64 ((↑k : Int) + (1 : Int))) ∧ ((↑(List.length l) : Int) = (↑(List.length l) : Int)) ∧ (List.length l = List.length l) ∧ (∀ (i : Nat),
  i < List.length l →
    ∀ (j : Nat),
      j < (1 : Nat) →
        AV.int IntKind.i64 (List.getD l i (0 : Int)) =
          AV.int IntKind.i64 (List.getD l i (0 : Int))) ∧ (List.length l' = List.length l') ∧ (∀ (i : Nat),
  i < List.length l' →
    ∀ (j : Nat),
      j < (1 : Nat) →
        AV.int IntKind.i64 (List.getD l' i (0 : Int)) =
          AV.int IntKind.i64 (List.getD l' i (0 : Int))) ∧ ((↑k : Int) + (1 : Int) = (↑(k + (1 : Nat)) : Int)) ∧ True) (by kernel_rfl)
    ⟨(decide_eq_true (by first | omega | (simp; omega) | (simp; done))),
     (by first | omega | rfl | (simp; done) | (simp; omega)),
     (by first | omega | rfl | (simp; done) | (simp; omega)),
     (by rw [he]; simp),
     (in64 (by omega) (by omega)),
     rfl,
     rfl,
     (fun _ _ _ _ => rfl),
     rfl,
     (fun _ _ _ _ => rfl),
     (by first | omega | rfl | (simp; done) | (simp; omega)),
     trivial⟩
theorem e_dif (l l' : List Int) (k : Nat) (hk : k < l.length) (hl : l.length = l'.length) (hb : l.length < 1000000000) (he : l.getD k 0 ≠ l'.getD k 0) : Vc (vcC Try.prog false (ntOf Try.prog 37) (lpC Try.prog 37 0) (eS l l' k) [.b true, .b true] .ret [] eR) :=
  vc_of (q := (decide ((↑k : Int) < (↑(List.length l) : Int)) = true) ∧ ((0 : Int) ≤ (↑k : Int) ∧ (↑k : Int) < (↑(List.length l) : Int)) ∧ ((0 : Int) ≤ (↑k : Int) ∧ (↑k : Int) < (↑(List.length l') : Int)) ∧ ((List.getD l k (0 : Int) != List.getD l' k (0 : Int)) = true) ∧ (false = false) ∧ True) (by kernel_rfl)
    ⟨(decide_eq_true (by first | omega | (simp; omega) | (simp; done))),
     (by first | omega | rfl | (simp; done) | (simp; omega)),
     (by first | omega | rfl | (simp; done) | (simp; omega)),
     (bne_iff_ne.2 he),
     rfl,
     trivial⟩
theorem e_end (l l' : List Int) : Vc (vcC Try.prog false (ntOf Try.prog 37) (lpC Try.prog 37 0) (eS l l' l.length) [.b false] (.ext 0) [] (eS l l' l.length)) :=
  vc_of (q := (decide ((↑(List.length l) : Int) < (↑(List.length l) : Int)) = false) ∧ ((↑(List.length l) : Int) = (↑(List.length l) : Int)) ∧ (List.length l = List.length l) ∧ (∀ (i : Nat),
  i < List.length l →
    ∀ (j : Nat),
      j < (1 : Nat) →
        AV.int IntKind.i64 (List.getD l i (0 : Int)) =
          AV.int IntKind.i64 (List.getD l i (0 : Int))) ∧ (List.length l' = List.length l') ∧ (∀ (i : Nat),
  i < List.length l' →
    ∀ (j : Nat),
      j < (1 : Nat) →
        AV.int IntKind.i64 (List.getD l' i (0 : Int)) =
          AV.int IntKind.i64 (List.getD l' i (0 : Int))) ∧ ((↑(List.length l) : Int) = (↑(List.length l) : Int)) ∧ True) (by kernel_rfl)
    ⟨(decide_eq_false (by first | omega | (simp; omega) | (simp; done))),
     rfl,
     rfl,
     (fun _ _ _ _ => rfl),
     rfl,
     (fun _ _ _ _ => rfl),
     rfl,
     trivial⟩
theorem e_loop_dif (l l' : List Int) (hl : l.length = l'.length) (hb : l.length < 1000000000) (h : l ≠ l') : Ok Try.prog (ntOf Try.prog 37) (.loop (lpC Try.prog 37 0)) (eS l l' 0).st .ret (eR).st := by
  obtain ⟨m, hm, h1, h2⟩ := diff_at l l' hl h
  exact Ok.loop (P := Try.prog) (nt := ntOf Try.prog 37) (c := lpC Try.prog 37 0) (F := fun k => eS l l' k) (m := m) (x := .ret) (J := eR) (fun k hk => Ok.vc (e_step l l' k (by omega) hl hb (h1 k hk))) (Ok.vc (e_dif l l' m hm hl hb h2)) (by simp)
theorem e_loop_end (l : List Int) (hb : l.length < 1000000000) : Ok Try.prog (ntOf Try.prog 37) (.loop (lpC Try.prog 37 0)) (eS l l 0).st (.ext 0) (eS l l l.length).st :=
  Ok.loop (P := Try.prog) (nt := ntOf Try.prog 37) (c := lpC Try.prog 37 0) (F := fun k => eS l l k) (m := l.length) (x := .ext 0) (J := eS l l l.length) (fun k hk => Ok.vc (e_step l l k hk rfl hb rfl)) (Ok.vc (e_end l l)) (by simp)
theorem e_ne (l l' : List Int) (hl : l.length ≠ l'.length) : Vc (vcFn Try.prog false 37 [(.row 1 l.length (rowI l)), (.row 1 l'.length (rowI l'))] [.b true] [] (.bool false) []) :=
  vc_of (q := (((↑(List.length l) : Int) != (↑(List.length l') : Int)) = true) ∧ (false = false) ∧ True) (by kernel_rfl)
    ⟨(bne_iff_ne.2 fun h => hl (Int.ofNat_inj.1 h)),
     rfl,
     trivial⟩
theorem e_df (l l' : List Int) (hl : l.length = l'.length) (hb : l.length < 1000000000) (h : l ≠ l') : Vc (vcFn Try.prog false 37 [(.row 1 l.length (rowI l)), (.row 1 l'.length (rowI l'))] [.b false, .lp [] (eS l l' 0) .ret eR] [] (.bool false) []) :=
  vc_of (q := (((↑(List.length l) : Int) != (↑(List.length l') : Int)) = false) ∧ ((↑(List.length l) : Int) = (↑(List.length l) : Int)) ∧ (List.length l = List.length l) ∧ (∀ (i : Nat),
  i < List.length l →
    ∀ (j : Nat),
      j < (1 : Nat) →
        AV.int IntKind.i64 (List.getD l i (0 : Int)) =
          AV.int IntKind.i64 (List.getD l i (0 : Int))) ∧ (List.length l' = List.length l') ∧ (∀ (i : Nat),
  i < List.length l' →
    ∀ (j : Nat),
      j < (1 : Nat) →
        AV.int IntKind.i64 (List.getD l' i (0 : Int)) =
          AV.int IntKind.i64 (List.getD l' i (0 : Int))) ∧ ((0 : Int) = (↑(0 : Nat) : Int)) ∧ (Ok Try.prog (ntOf Try.prog 37) (.loop (lpC Try.prog 37 0)) (eS l l' 0).st .ret (eR).st) ∧ (false = false) ∧ True) (by kernel_rfl)
    ⟨(by rw [hl]; simp),
     rfl,
     rfl,
     (fun _ _ _ _ => rfl),
     rfl,
     (fun _ _ _ _ => rfl),
     (by first | omega | rfl | (simp; done) | (simp; omega)),
     e_loop_dif l l' hl hb h,
     rfl,
     trivial⟩
theorem e_eq (l : List Int) (hb : l.length < 1000000000) : Vc (vcFn Try.prog false 37 [(.row 1 l.length (rowI l)), (.row 1 l.length (rowI l))] [.b false, .lp [] (eS l l 0) (.ext 0) (eS l l l.length)] [] (.bool true) []) :=
  vc_of (q := (((↑(List.length l) : Int) != (↑(List.length l) : Int)) = false) ∧ ((↑(List.length l) : Int) = (↑(List.length l) : Int)) ∧ (List.length l = List.length l) ∧ (∀ (i : Nat),
  i < List.length l →
    ∀ (j : Nat),
      j < (1 : Nat) →
        AV.int IntKind.i64 (List.getD l i (0 : Int)) =
          AV.int IntKind.i64 (List.getD l i (0 : Int))) ∧ (List.length l = List.length l) ∧ (∀ (i : Nat),
  i < List.length l →
    ∀ (j : Nat),
      j < (1 : Nat) →
        AV.int IntKind.i64 (List.getD l i (0 : Int)) =
          AV.int IntKind.i64 (List.getD l i (0 : Int))) ∧ ((0 : Int) = (↑(0 : Nat) : Int)) ∧ (Ok Try.prog (ntOf Try.prog 37) (.loop (lpC Try.prog 37 0)) (eS l l 0).st (.ext 0) (eS l l l.length).st) ∧ (true = true) ∧ True) (by kernel_rfl)
    ⟨(by simp),
     rfl,
     rfl,
     (fun _ _ _ _ => rfl),
     rfl,
     (fun _ _ _ _ => rfl),
     (by first | omega | rfl | (simp; done) | (simp; omega)),
     e_loop_end l hb,
     rfl,
     trivial⟩
theorem e_nn  : Vc (vcFn Try.prog true 37 [.nils, .nils] [] [] (.bool true) []) :=
  vc_of (q := (true = true) ∧ True) (by kernel_rfl)
    ⟨rfl,
     trivial⟩
theorem e_nr0 (l : List Int) (h : l = []) : Vc (vcFn Try.prog false 37 [.nils, (.row 1 l.length (rowI l))] [.b false, .b false] [] (.bool true) []) :=
  vc_of (q := (((0 : Int) != (↑(List.length l) : Int)) = false) ∧ (decide ((0 : Int) < (0 : Int)) = false) ∧ (true = true) ∧ True) (by kernel_rfl)
    ⟨(by rw [h]; rfl),
     (by first | rw [h]; rfl | rfl),
     rfl,
     trivial⟩
theorem e_nr1 (l : List Int) (h : l ≠ []) : Vc (vcFn Try.prog false 37 [.nils, (.row 1 l.length (rowI l))] [.b true] [] (.bool false) []) :=
  vc_of (q := (((0 : Int) != (↑(List.length l) : Int)) = true) ∧ (false = false) ∧ True) (by kernel_rfl)
    ⟨(by cases l with | nil => exact absurd rfl h | cons a l => rfl),
     rfl,
     trivial⟩
theorem e_rn0 (l : List Int) (h : l = []) : Vc (vcFn Try.prog false 37 [(.row 1 l.length (rowI l)), .nils] [.b false, .b false] [] (.bool true) []) :=
  vc_of (q := (((↑(List.length l) : Int) != (0 : Int)) = false) ∧ (decide ((0 : Int) < (↑(List.length l) : Int)) = false) ∧ (true = true) ∧ True) (by kernel_rfl)
    ⟨(by rw [h]; rfl),
     (by first | rw [h]; rfl | rfl),
     rfl,
     trivial⟩
theorem e_rn1 (l : List Int) (h : l ≠ []) : Vc (vcFn Try.prog false 37 [(.row 1 l.length (rowI l)), .nils] [.b true] [] (.bool false) []) :=
  vc_of (q := (((↑(List.length l) : Int) != (0 : Int)) = true) ∧ (false = false) ∧ True) (by kernel_rfl)
    ⟨(by cases l with | nil => exact absurd rfl h | cons a l => rfl),
     rfl,
     trivial⟩
/-- a row in either of its forms -/
inductive RowA : AV → List Int → Prop where
  | nil : RowA .nils []
  | row (l : List Int) : RowA (.row 1 l.length (rowI l)) l
theorem equalC {a b : AV} {l l' : List Int} (ha : RowA a l) (hb : RowA b l') (h1 : l.length < 1000000000) (h2 : l'.length < 1000000000) : PureC Try.prog 37 [a, b] (.bool (eqI l l')) [] := by
  cases ha with
  | nil => cases hb with
    | nil => exact PureC.vc e_nn
    | row => by_cases h : l' = []
             · have e : eqI [] l' = true := by rw [h]; rfl
               rw [e]; exact PureC.vc (e_nr0 l' h)
             · have e : eqI [] l' = false := decide_eq_false (fun e => h e.symm)
               rw [e]; exact PureC.vc (e_nr1 l' h)
  | row => cases hb with
    | nil => by_cases h : l = []
             · have e : eqI l [] = true := by rw [h]; rfl
               rw [e]; exact PureC.vc (e_rn0 l h)
             · have e : eqI l [] = false := decide_eq_false h
               rw [e]; exact PureC.vc (e_rn1 l h)
    | row =>
      by_cases h : l = l'
      · subst h
        have e : eqI l l = true := decide_eq_true rfl
        rw [e]; exact PureC.vc (e_eq l h1)
      · have e : eqI l l' = false := decide_eq_false h
        rw [e]
        by_cases hl : l.length = l'.length
        · exact PureC.vc (e_df l l' hl h1 h)
        · exact PureC.vc (e_ne l l' hl)
end Go.Proofs.Ytdbnfdcjibgikaa.Px
