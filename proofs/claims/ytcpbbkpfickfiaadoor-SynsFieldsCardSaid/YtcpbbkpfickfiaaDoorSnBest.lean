/- The first form that fits whole, for every row of signs. -/
import Derived.Test.YtcpbbkpfickfiaaDoorSnSame
set_option linter.unusedVariables false
set_option linter.unusedSimpArgs false
namespace Go.Proofs.YtcpbbkpfickfiaaDoor
namespace Sn
open Lx (Tk)
open Sy (In It Vl St)
/-- may a form begin with that sign? -/
def app (t : Tk) (g : Fm) : Bool := if g.word = [] then (if g.rest.head? = some 77 then isNm t else decide (0 < Sy.opN t.text)) else decide (t.text = g.word)
section
variable {t : Tk} {l : List Tk} {long : Nat}
theorem fit_zero {g : Fm} (hg : g ∈ forms) (h : app t g = false) : fit (t :: l) g = .error 0 := by
  unfold app at h
  unfold fit
  by_cases hw : g.word = []
  · rw [if_pos hw] at h ⊢
    simp only [forms, List.mem_cons, List.not_mem_nil, or_false] at hg
    rcases hg with rfl | rfl | rfl | rfl | rfl | rfl | rfl | rfl | rfl | rfl | rfl | rfl | rfl | rfl | rfl | rfl | rfl | rfl | rfl | rfl
    all_goals try (exact absurd hw (by decide))
    · simp at h
      simp only [begin_]
      rw [fitG, if_neg (by decide)]
      simp [take, h]
    · simp at h
      simp only [begin_]
      rw [fitG, if_neg (by decide)]
      simp [take, show ¬ 0 < Sy.opN t.text by omega]
  · rw [if_neg hw] at h ⊢
    rw [if_neg]
    simpa [Sy.tokAt] using h
theorem best_zero {ts : List Tk} : ∀ (L : List Fm) (m : Nat), (∀ g ∈ L, fit ts g = .error 0) → best ts L m = .error m
  | [], m, _ => rfl
  | g :: L, m, h => by
    rw [best, h g (by simp)]
    have := best_zero L (max m 0) (fun x hx => h x (by simp [hx]))
    simpa using this
theorem best_skip {ts : List Tk} : ∀ (L R : List Fm) (m : Nat), (∀ g ∈ L, fit ts g = .error 0) → best ts (L ++ R) m = best ts R m
  | [], R, m, _ => rfl
  | g :: L, R, m, h => by
    rw [List.cons_append, best, h g (by simp)]
    have := best_skip L R (max m 0) (fun x hx => h x (by simp [hx]))
    simpa using this
theorem all_zero {L : List Fm} (hL : ∀ g ∈ L, g ∈ forms) (h : L.all (fun g => !app t g) = true) : ∀ g ∈ L, fit (t :: l) g = .error 0 := fun g hg => by
  have := List.all_eq_true.1 h g hg
  exact fit_zero (hL g hg) (by simpa using this)
theorem only (k : Nat) {f : Fm} (hk : forms = forms.take k ++ f :: forms.drop (k + 1)) (h1 : (forms.take k).all (fun g => !app t g) = true) (h2 : (forms.drop (k + 1)).all (fun g => !app t g) = true) :
    best (t :: l) forms 0 = fit (t :: l) f := by
  rw [hk, best_skip _ _ _ (all_zero (fun g hg => List.mem_of_mem_take hg) h1), best]
  cases fit (t :: l) f with
  | ok i => rfl
  | error n => simp only [best_zero _ _ (all_zero (l := l) (fun g hg => List.mem_of_mem_drop hg) h2)]; simp
theorem none_ (h : forms.all (fun g => !app t g) = true) : best (t :: l) forms 0 = .error 0 := best_zero _ _ (all_zero (fun g hg => hg) h)
theorem fit_self {f : Fm} (hw : f.word ≠ []) (ht : t.text = f.word) : fit (t :: l) f = fitG (t :: l) (begin_ f) f.rest 1 := by
  unfold fit
  rw [if_neg hw, if_pos (by simpa [Sy.tokAt] using ht)]
theorem step0 : Sy.step (t :: l) ⟨0, -1⟩ = ⟨1, -1⟩ := by simp [Sy.step]
theorem tok0 : Sy.tokAt (t :: l) long 0 = t := rfl
theorem r32 {ts : List Tk} (x : It × St) : rd ts long x 32 = x := by rw [rd, if_pos rfl]
theorem len1 : 1 ≤ (t :: l).length := by simp

set_option maxHeartbeats 4000000 in
theorem same_width (n : Int) (a : Nat) (G : ∀ x ∈ (⟨1, [119, 105, 100, 116, 104], n, a⟩ : Tk) :: l, Lx.Good x) : told (⟨1, [119, 105, 100, 116, 104], n, a⟩ :: l) long (best (⟨1, [119, 105, 100, 116, 104], n, a⟩ :: l) forms 0) = ended (⟨1, [119, 105, 100, 116, 104], n, a⟩ :: l) long (Sy.item (⟨1, [119, 105, 100, 116, 104], n, a⟩ :: l) long ⟨0, -1⟩) := by
  rw [only 0 (f := forms[0]) rfl rfl rfl, fit_self (by decide) rfl, ← ended_run (ts := ⟨1, [119, 105, 100, 116, 104], n, a⟩ :: l) _ _ ⟨1, -1⟩ (by decide) len1]
  refine congrArg _ ?_
  have D := fun i s => (reg_rd (long := long) G i s).symm; have A := fun i s => (a_rd (long := long) G i s).symm; have B := fun i s => (b_rd (long := long) G i s).symm
  have O := fun i s => (op_rd (long := long) G i s).symm; have L := fun i s => (goes_rd (long := long) G i s).symm; have N := fun i s => (num_rd (ts := ⟨1, [119, 105, 100, 116, 104], n, a⟩ :: l) (long := long) i s).symm
  have S1 := fun i s => (sign_rd (long := long) G i s (p := 44) (by decide)).symm; have S2 := fun i s => (sign_rd (long := long) G i s (p := 91) (by decide)).symm; have S3 := fun i s => (sign_rd (long := long) G i s (p := 43) (by decide)).symm; have S4 := fun i s => (sign_rd (long := long) G i s (p := 93) (by decide)).symm
  show run _ _ forms[0].rest _ = _
  simp only [forms, List.getElem_cons_succ, List.getElem_cons_zero, begin_, run, List.foldl_cons, List.foldl_nil, r32, D, A, B, O, L, N, S1, S2, S3, S4]
  unfold Sy.item
  simp only [tok0, step0]
  rfl
set_option maxHeartbeats 4000000 in
theorem same_window (n : Int) (a : Nat) (G : ∀ x ∈ (⟨1, [119, 105, 110, 100, 111, 119], n, a⟩ : Tk) :: l, Lx.Good x) : told (⟨1, [119, 105, 110, 100, 111, 119], n, a⟩ :: l) long (best (⟨1, [119, 105, 110, 100, 111, 119], n, a⟩ :: l) forms 0) = ended (⟨1, [119, 105, 110, 100, 111, 119], n, a⟩ :: l) long (Sy.item (⟨1, [119, 105, 110, 100, 111, 119], n, a⟩ :: l) long ⟨0, -1⟩) := by
  rw [only 1 (f := forms[1]) rfl rfl rfl, fit_self (by decide) rfl, ← ended_run (ts := ⟨1, [119, 105, 110, 100, 111, 119], n, a⟩ :: l) _ _ ⟨1, -1⟩ (by decide) len1]
  refine congrArg _ ?_
  have D := fun i s => (reg_rd (long := long) G i s).symm; have A := fun i s => (a_rd (long := long) G i s).symm; have B := fun i s => (b_rd (long := long) G i s).symm
  have O := fun i s => (op_rd (long := long) G i s).symm; have L := fun i s => (goes_rd (long := long) G i s).symm; have N := fun i s => (num_rd (ts := ⟨1, [119, 105, 110, 100, 111, 119], n, a⟩ :: l) (long := long) i s).symm
  have S1 := fun i s => (sign_rd (long := long) G i s (p := 44) (by decide)).symm; have S2 := fun i s => (sign_rd (long := long) G i s (p := 91) (by decide)).symm; have S3 := fun i s => (sign_rd (long := long) G i s (p := 43) (by decide)).symm; have S4 := fun i s => (sign_rd (long := long) G i s (p := 93) (by decide)).symm
  show run _ _ forms[1].rest _ = _
  simp only [forms, List.getElem_cons_succ, List.getElem_cons_zero, begin_, run, List.foldl_cons, List.foldl_nil, r32, D, A, B, O, L, N, S1, S2, S3, S4]
  unfold Sy.item
  simp only [tok0, step0]
  rfl
set_option maxHeartbeats 4000000 in
theorem same_fuel (n : Int) (a : Nat) (G : ∀ x ∈ (⟨1, [102, 117, 101, 108], n, a⟩ : Tk) :: l, Lx.Good x) : told (⟨1, [102, 117, 101, 108], n, a⟩ :: l) long (best (⟨1, [102, 117, 101, 108], n, a⟩ :: l) forms 0) = ended (⟨1, [102, 117, 101, 108], n, a⟩ :: l) long (Sy.item (⟨1, [102, 117, 101, 108], n, a⟩ :: l) long ⟨0, -1⟩) := by
  rw [only 2 (f := forms[2]) rfl rfl rfl, fit_self (by decide) rfl, ← ended_run (ts := ⟨1, [102, 117, 101, 108], n, a⟩ :: l) _ _ ⟨1, -1⟩ (by decide) len1]
  refine congrArg _ ?_
  have D := fun i s => (reg_rd (long := long) G i s).symm; have A := fun i s => (a_rd (long := long) G i s).symm; have B := fun i s => (b_rd (long := long) G i s).symm
  have O := fun i s => (op_rd (long := long) G i s).symm; have L := fun i s => (goes_rd (long := long) G i s).symm; have N := fun i s => (num_rd (ts := ⟨1, [102, 117, 101, 108], n, a⟩ :: l) (long := long) i s).symm
  have S1 := fun i s => (sign_rd (long := long) G i s (p := 44) (by decide)).symm; have S2 := fun i s => (sign_rd (long := long) G i s (p := 91) (by decide)).symm; have S3 := fun i s => (sign_rd (long := long) G i s (p := 43) (by decide)).symm; have S4 := fun i s => (sign_rd (long := long) G i s (p := 93) (by decide)).symm
  show run _ _ forms[2].rest _ = _
  simp only [forms, List.getElem_cons_succ, List.getElem_cons_zero, begin_, run, List.foldl_cons, List.foldl_nil, r32, D, A, B, O, L, N, S1, S2, S3, S4]
  unfold Sy.item
  simp only [tok0, step0]
  rfl
set_option maxHeartbeats 4000000 in
theorem same_mov (n : Int) (a : Nat) (G : ∀ x ∈ (⟨1, [109, 111, 118], n, a⟩ : Tk) :: l, Lx.Good x) : told (⟨1, [109, 111, 118], n, a⟩ :: l) long (best (⟨1, [109, 111, 118], n, a⟩ :: l) forms 0) = ended (⟨1, [109, 111, 118], n, a⟩ :: l) long (Sy.item (⟨1, [109, 111, 118], n, a⟩ :: l) long ⟨0, -1⟩) := by
  rw [only 9 (f := forms[9]) rfl rfl rfl, fit_self (by decide) rfl, ← ended_run (ts := ⟨1, [109, 111, 118], n, a⟩ :: l) _ _ ⟨1, -1⟩ (by decide) len1]
  refine congrArg _ ?_
  have D := fun i s => (reg_rd (long := long) G i s).symm; have A := fun i s => (a_rd (long := long) G i s).symm; have B := fun i s => (b_rd (long := long) G i s).symm
  have O := fun i s => (op_rd (long := long) G i s).symm; have L := fun i s => (goes_rd (long := long) G i s).symm; have N := fun i s => (num_rd (ts := ⟨1, [109, 111, 118], n, a⟩ :: l) (long := long) i s).symm
  have S1 := fun i s => (sign_rd (long := long) G i s (p := 44) (by decide)).symm; have S2 := fun i s => (sign_rd (long := long) G i s (p := 91) (by decide)).symm; have S3 := fun i s => (sign_rd (long := long) G i s (p := 43) (by decide)).symm; have S4 := fun i s => (sign_rd (long := long) G i s (p := 93) (by decide)).symm
  show run _ _ forms[9].rest _ = _
  simp only [forms, List.getElem_cons_succ, List.getElem_cons_zero, begin_, run, List.foldl_cons, List.foldl_nil, r32, D, A, B, O, L, N, S1, S2, S3, S4]
  unfold Sy.item
  simp only [tok0, step0]
  rfl
set_option maxHeartbeats 4000000 in
theorem same_load (n : Int) (a : Nat) (G : ∀ x ∈ (⟨1, [108, 111, 97, 100], n, a⟩ : Tk) :: l, Lx.Good x) : told (⟨1, [108, 111, 97, 100], n, a⟩ :: l) long (best (⟨1, [108, 111, 97, 100], n, a⟩ :: l) forms 0) = ended (⟨1, [108, 111, 97, 100], n, a⟩ :: l) long (Sy.item (⟨1, [108, 111, 97, 100], n, a⟩ :: l) long ⟨0, -1⟩) := by
  rw [only 10 (f := forms[10]) rfl rfl rfl, fit_self (by decide) rfl, ← ended_run (ts := ⟨1, [108, 111, 97, 100], n, a⟩ :: l) _ _ ⟨1, -1⟩ (by decide) len1]
  refine congrArg _ ?_
  have D := fun i s => (reg_rd (long := long) G i s).symm; have A := fun i s => (a_rd (long := long) G i s).symm; have B := fun i s => (b_rd (long := long) G i s).symm
  have O := fun i s => (op_rd (long := long) G i s).symm; have L := fun i s => (goes_rd (long := long) G i s).symm; have N := fun i s => (num_rd (ts := ⟨1, [108, 111, 97, 100], n, a⟩ :: l) (long := long) i s).symm
  have S1 := fun i s => (sign_rd (long := long) G i s (p := 44) (by decide)).symm; have S2 := fun i s => (sign_rd (long := long) G i s (p := 91) (by decide)).symm; have S3 := fun i s => (sign_rd (long := long) G i s (p := 43) (by decide)).symm; have S4 := fun i s => (sign_rd (long := long) G i s (p := 93) (by decide)).symm
  show run _ _ forms[10].rest _ = _
  simp only [forms, List.getElem_cons_succ, List.getElem_cons_zero, begin_, run, List.foldl_cons, List.foldl_nil, r32, D, A, B, O, L, N, S1, S2, S3, S4]
  unfold Sy.item
  simp only [tok0, step0]
  rfl
set_option maxHeartbeats 4000000 in
theorem same_store (n : Int) (a : Nat) (G : ∀ x ∈ (⟨1, [115, 116, 111, 114, 101], n, a⟩ : Tk) :: l, Lx.Good x) : told (⟨1, [115, 116, 111, 114, 101], n, a⟩ :: l) long (best (⟨1, [115, 116, 111, 114, 101], n, a⟩ :: l) forms 0) = ended (⟨1, [115, 116, 111, 114, 101], n, a⟩ :: l) long (Sy.item (⟨1, [115, 116, 111, 114, 101], n, a⟩ :: l) long ⟨0, -1⟩) := by
  rw [only 11 (f := forms[11]) rfl rfl rfl, fit_self (by decide) rfl, ← ended_run (ts := ⟨1, [115, 116, 111, 114, 101], n, a⟩ :: l) _ _ ⟨1, -1⟩ (by decide) len1]
  refine congrArg _ ?_
  have D := fun i s => (reg_rd (long := long) G i s).symm; have A := fun i s => (a_rd (long := long) G i s).symm; have B := fun i s => (b_rd (long := long) G i s).symm
  have O := fun i s => (op_rd (long := long) G i s).symm; have L := fun i s => (goes_rd (long := long) G i s).symm; have N := fun i s => (num_rd (ts := ⟨1, [115, 116, 111, 114, 101], n, a⟩ :: l) (long := long) i s).symm
  have S1 := fun i s => (sign_rd (long := long) G i s (p := 44) (by decide)).symm; have S2 := fun i s => (sign_rd (long := long) G i s (p := 91) (by decide)).symm; have S3 := fun i s => (sign_rd (long := long) G i s (p := 43) (by decide)).symm; have S4 := fun i s => (sign_rd (long := long) G i s (p := 93) (by decide)).symm
  show run _ _ forms[11].rest _ = _
  simp only [forms, List.getElem_cons_succ, List.getElem_cons_zero, begin_, run, List.foldl_cons, List.foldl_nil, r32, D, A, B, O, L, N, S1, S2, S3, S4]
  unfold Sy.item
  simp only [tok0, step0]
  rfl
set_option maxHeartbeats 4000000 in
theorem same_cmov (n : Int) (a : Nat) (G : ∀ x ∈ (⟨1, [99, 109, 111, 118], n, a⟩ : Tk) :: l, Lx.Good x) : told (⟨1, [99, 109, 111, 118], n, a⟩ :: l) long (best (⟨1, [99, 109, 111, 118], n, a⟩ :: l) forms 0) = ended (⟨1, [99, 109, 111, 118], n, a⟩ :: l) long (Sy.item (⟨1, [99, 109, 111, 118], n, a⟩ :: l) long ⟨0, -1⟩) := by
  rw [only 12 (f := forms[12]) rfl rfl rfl, fit_self (by decide) rfl, ← ended_run (ts := ⟨1, [99, 109, 111, 118], n, a⟩ :: l) _ _ ⟨1, -1⟩ (by decide) len1]
  refine congrArg _ ?_
  have D := fun i s => (reg_rd (long := long) G i s).symm; have A := fun i s => (a_rd (long := long) G i s).symm; have B := fun i s => (b_rd (long := long) G i s).symm
  have O := fun i s => (op_rd (long := long) G i s).symm; have L := fun i s => (goes_rd (long := long) G i s).symm; have N := fun i s => (num_rd (ts := ⟨1, [99, 109, 111, 118], n, a⟩ :: l) (long := long) i s).symm
  have S1 := fun i s => (sign_rd (long := long) G i s (p := 44) (by decide)).symm; have S2 := fun i s => (sign_rd (long := long) G i s (p := 91) (by decide)).symm; have S3 := fun i s => (sign_rd (long := long) G i s (p := 43) (by decide)).symm; have S4 := fun i s => (sign_rd (long := long) G i s (p := 93) (by decide)).symm
  show run _ _ forms[12].rest _ = _
  simp only [forms, List.getElem_cons_succ, List.getElem_cons_zero, begin_, run, List.foldl_cons, List.foldl_nil, r32, D, A, B, O, L, N, S1, S2, S3, S4]
  unfold Sy.item
  simp only [tok0, step0]
  rfl
set_option maxHeartbeats 4000000 in
theorem same_br (n : Int) (a : Nat) (G : ∀ x ∈ (⟨1, [98, 114], n, a⟩ : Tk) :: l, Lx.Good x) : told (⟨1, [98, 114], n, a⟩ :: l) long (best (⟨1, [98, 114], n, a⟩ :: l) forms 0) = ended (⟨1, [98, 114], n, a⟩ :: l) long (Sy.item (⟨1, [98, 114], n, a⟩ :: l) long ⟨0, -1⟩) := by
  rw [only 13 (f := forms[13]) rfl rfl rfl, fit_self (by decide) rfl, ← ended_run (ts := ⟨1, [98, 114], n, a⟩ :: l) _ _ ⟨1, -1⟩ (by decide) len1]
  refine congrArg _ ?_
  have D := fun i s => (reg_rd (long := long) G i s).symm; have A := fun i s => (a_rd (long := long) G i s).symm; have B := fun i s => (b_rd (long := long) G i s).symm
  have O := fun i s => (op_rd (long := long) G i s).symm; have L := fun i s => (goes_rd (long := long) G i s).symm; have N := fun i s => (num_rd (ts := ⟨1, [98, 114], n, a⟩ :: l) (long := long) i s).symm
  have S1 := fun i s => (sign_rd (long := long) G i s (p := 44) (by decide)).symm; have S2 := fun i s => (sign_rd (long := long) G i s (p := 91) (by decide)).symm; have S3 := fun i s => (sign_rd (long := long) G i s (p := 43) (by decide)).symm; have S4 := fun i s => (sign_rd (long := long) G i s (p := 93) (by decide)).symm
  show run _ _ forms[13].rest _ = _
  simp only [forms, List.getElem_cons_succ, List.getElem_cons_zero, begin_, run, List.foldl_cons, List.foldl_nil, r32, D, A, B, O, L, N, S1, S2, S3, S4]
  unfold Sy.item
  simp only [tok0, step0]
  rfl
set_option maxHeartbeats 4000000 in
theorem same_jmp (n : Int) (a : Nat) (G : ∀ x ∈ (⟨1, [106, 109, 112], n, a⟩ : Tk) :: l, Lx.Good x) : told (⟨1, [106, 109, 112], n, a⟩ :: l) long (best (⟨1, [106, 109, 112], n, a⟩ :: l) forms 0) = ended (⟨1, [106, 109, 112], n, a⟩ :: l) long (Sy.item (⟨1, [106, 109, 112], n, a⟩ :: l) long ⟨0, -1⟩) := by
  rw [only 14 (f := forms[14]) rfl rfl rfl, fit_self (by decide) rfl, ← ended_run (ts := ⟨1, [106, 109, 112], n, a⟩ :: l) _ _ ⟨1, -1⟩ (by decide) len1]
  refine congrArg _ ?_
  have D := fun i s => (reg_rd (long := long) G i s).symm; have A := fun i s => (a_rd (long := long) G i s).symm; have B := fun i s => (b_rd (long := long) G i s).symm
  have O := fun i s => (op_rd (long := long) G i s).symm; have L := fun i s => (goes_rd (long := long) G i s).symm; have N := fun i s => (num_rd (ts := ⟨1, [106, 109, 112], n, a⟩ :: l) (long := long) i s).symm
  have S1 := fun i s => (sign_rd (long := long) G i s (p := 44) (by decide)).symm; have S2 := fun i s => (sign_rd (long := long) G i s (p := 91) (by decide)).symm; have S3 := fun i s => (sign_rd (long := long) G i s (p := 43) (by decide)).symm; have S4 := fun i s => (sign_rd (long := long) G i s (p := 93) (by decide)).symm
  show run _ _ forms[14].rest _ = _
  simp only [forms, List.getElem_cons_succ, List.getElem_cons_zero, begin_, run, List.foldl_cons, List.foldl_nil, r32, D, A, B, O, L, N, S1, S2, S3, S4]
  unfold Sy.item
  simp only [tok0, step0]
  rfl
set_option maxHeartbeats 4000000 in
theorem same_call (n : Int) (a : Nat) (G : ∀ x ∈ (⟨1, [99, 97, 108, 108], n, a⟩ : Tk) :: l, Lx.Good x) : told (⟨1, [99, 97, 108, 108], n, a⟩ :: l) long (best (⟨1, [99, 97, 108, 108], n, a⟩ :: l) forms 0) = ended (⟨1, [99, 97, 108, 108], n, a⟩ :: l) long (Sy.item (⟨1, [99, 97, 108, 108], n, a⟩ :: l) long ⟨0, -1⟩) := by
  rw [only 15 (f := forms[15]) rfl rfl rfl, fit_self (by decide) rfl, ← ended_run (ts := ⟨1, [99, 97, 108, 108], n, a⟩ :: l) _ _ ⟨1, -1⟩ (by decide) len1]
  refine congrArg _ ?_
  have D := fun i s => (reg_rd (long := long) G i s).symm; have A := fun i s => (a_rd (long := long) G i s).symm; have B := fun i s => (b_rd (long := long) G i s).symm
  have O := fun i s => (op_rd (long := long) G i s).symm; have L := fun i s => (goes_rd (long := long) G i s).symm; have N := fun i s => (num_rd (ts := ⟨1, [99, 97, 108, 108], n, a⟩ :: l) (long := long) i s).symm
  have S1 := fun i s => (sign_rd (long := long) G i s (p := 44) (by decide)).symm; have S2 := fun i s => (sign_rd (long := long) G i s (p := 91) (by decide)).symm; have S3 := fun i s => (sign_rd (long := long) G i s (p := 43) (by decide)).symm; have S4 := fun i s => (sign_rd (long := long) G i s (p := 93) (by decide)).symm
  show run _ _ forms[15].rest _ = _
  simp only [forms, List.getElem_cons_succ, List.getElem_cons_zero, begin_, run, List.foldl_cons, List.foldl_nil, r32, D, A, B, O, L, N, S1, S2, S3, S4]
  unfold Sy.item
  simp only [tok0, step0]
  rfl
set_option maxHeartbeats 4000000 in
theorem same_ind (n : Int) (a : Nat) (G : ∀ x ∈ (⟨1, [105, 110, 100], n, a⟩ : Tk) :: l, Lx.Good x) : told (⟨1, [105, 110, 100], n, a⟩ :: l) long (best (⟨1, [105, 110, 100], n, a⟩ :: l) forms 0) = ended (⟨1, [105, 110, 100], n, a⟩ :: l) long (Sy.item (⟨1, [105, 110, 100], n, a⟩ :: l) long ⟨0, -1⟩) := by
  rw [only 16 (f := forms[16]) rfl rfl rfl, fit_self (by decide) rfl, ← ended_run (ts := ⟨1, [105, 110, 100], n, a⟩ :: l) _ _ ⟨1, -1⟩ (by decide) len1]
  refine congrArg _ ?_
  have D := fun i s => (reg_rd (long := long) G i s).symm; have A := fun i s => (a_rd (long := long) G i s).symm; have B := fun i s => (b_rd (long := long) G i s).symm
  have O := fun i s => (op_rd (long := long) G i s).symm; have L := fun i s => (goes_rd (long := long) G i s).symm; have N := fun i s => (num_rd (ts := ⟨1, [105, 110, 100], n, a⟩ :: l) (long := long) i s).symm
  have S1 := fun i s => (sign_rd (long := long) G i s (p := 44) (by decide)).symm; have S2 := fun i s => (sign_rd (long := long) G i s (p := 91) (by decide)).symm; have S3 := fun i s => (sign_rd (long := long) G i s (p := 43) (by decide)).symm; have S4 := fun i s => (sign_rd (long := long) G i s (p := 93) (by decide)).symm
  show run _ _ forms[16].rest _ = _
  simp only [forms, List.getElem_cons_succ, List.getElem_cons_zero, begin_, run, List.foldl_cons, List.foldl_nil, r32, D, A, B, O, L, N, S1, S2, S3, S4]
  unfold Sy.item
  simp only [tok0, step0]
  rfl
set_option maxHeartbeats 4000000 in
theorem same_ret (n : Int) (a : Nat) (G : ∀ x ∈ (⟨1, [114, 101, 116], n, a⟩ : Tk) :: l, Lx.Good x) : told (⟨1, [114, 101, 116], n, a⟩ :: l) long (best (⟨1, [114, 101, 116], n, a⟩ :: l) forms 0) = ended (⟨1, [114, 101, 116], n, a⟩ :: l) long (Sy.item (⟨1, [114, 101, 116], n, a⟩ :: l) long ⟨0, -1⟩) := by
  rw [only 17 (f := forms[17]) rfl rfl rfl, fit_self (by decide) rfl, ← ended_run (ts := ⟨1, [114, 101, 116], n, a⟩ :: l) _ _ ⟨1, -1⟩ (by decide) len1]
  refine congrArg _ ?_
  have D := fun i s => (reg_rd (long := long) G i s).symm; have A := fun i s => (a_rd (long := long) G i s).symm; have B := fun i s => (b_rd (long := long) G i s).symm
  have O := fun i s => (op_rd (long := long) G i s).symm; have L := fun i s => (goes_rd (long := long) G i s).symm; have N := fun i s => (num_rd (ts := ⟨1, [114, 101, 116], n, a⟩ :: l) (long := long) i s).symm
  have S1 := fun i s => (sign_rd (long := long) G i s (p := 44) (by decide)).symm; have S2 := fun i s => (sign_rd (long := long) G i s (p := 91) (by decide)).symm; have S3 := fun i s => (sign_rd (long := long) G i s (p := 43) (by decide)).symm; have S4 := fun i s => (sign_rd (long := long) G i s (p := 93) (by decide)).symm
  show run _ _ forms[17].rest _ = _
  simp only [forms, List.getElem_cons_succ, List.getElem_cons_zero, begin_, run, List.foldl_cons, List.foldl_nil, r32, D, A, B, O, L, N, S1, S2, S3, S4]
  unfold Sy.item
  simp only [tok0, step0]
  rfl
set_option maxHeartbeats 4000000 in
theorem same_fence (n : Int) (a : Nat) (G : ∀ x ∈ (⟨1, [102, 101, 110, 99, 101], n, a⟩ : Tk) :: l, Lx.Good x) : told (⟨1, [102, 101, 110, 99, 101], n, a⟩ :: l) long (best (⟨1, [102, 101, 110, 99, 101], n, a⟩ :: l) forms 0) = ended (⟨1, [102, 101, 110, 99, 101], n, a⟩ :: l) long (Sy.item (⟨1, [102, 101, 110, 99, 101], n, a⟩ :: l) long ⟨0, -1⟩) := by
  rw [only 18 (f := forms[18]) rfl rfl rfl, fit_self (by decide) rfl, ← ended_run (ts := ⟨1, [102, 101, 110, 99, 101], n, a⟩ :: l) _ _ ⟨1, -1⟩ (by decide) len1]
  refine congrArg _ ?_
  have D := fun i s => (reg_rd (long := long) G i s).symm; have A := fun i s => (a_rd (long := long) G i s).symm; have B := fun i s => (b_rd (long := long) G i s).symm
  have O := fun i s => (op_rd (long := long) G i s).symm; have L := fun i s => (goes_rd (long := long) G i s).symm; have N := fun i s => (num_rd (ts := ⟨1, [102, 101, 110, 99, 101], n, a⟩ :: l) (long := long) i s).symm
  have S1 := fun i s => (sign_rd (long := long) G i s (p := 44) (by decide)).symm; have S2 := fun i s => (sign_rd (long := long) G i s (p := 91) (by decide)).symm; have S3 := fun i s => (sign_rd (long := long) G i s (p := 43) (by decide)).symm; have S4 := fun i s => (sign_rd (long := long) G i s (p := 93) (by decide)).symm
  show run _ _ forms[18].rest _ = _
  simp only [forms, List.getElem_cons_succ, List.getElem_cons_zero, begin_, run, List.foldl_cons, List.foldl_nil, r32, D, A, B, O, L, N, S1, S2, S3, S4]
  unfold Sy.item
  simp only [tok0, step0]
  rfl
set_option maxHeartbeats 4000000 in
theorem same_halt (n : Int) (a : Nat) (G : ∀ x ∈ (⟨1, [104, 97, 108, 116], n, a⟩ : Tk) :: l, Lx.Good x) : told (⟨1, [104, 97, 108, 116], n, a⟩ :: l) long (best (⟨1, [104, 97, 108, 116], n, a⟩ :: l) forms 0) = ended (⟨1, [104, 97, 108, 116], n, a⟩ :: l) long (Sy.item (⟨1, [104, 97, 108, 116], n, a⟩ :: l) long ⟨0, -1⟩) := by
  rw [only 19 (f := forms[19]) rfl rfl rfl, fit_self (by decide) rfl, ← ended_run (ts := ⟨1, [104, 97, 108, 116], n, a⟩ :: l) _ _ ⟨1, -1⟩ (by decide) len1]
  refine congrArg _ ?_
  have D := fun i s => (reg_rd (long := long) G i s).symm; have A := fun i s => (a_rd (long := long) G i s).symm; have B := fun i s => (b_rd (long := long) G i s).symm
  have O := fun i s => (op_rd (long := long) G i s).symm; have L := fun i s => (goes_rd (long := long) G i s).symm; have N := fun i s => (num_rd (ts := ⟨1, [104, 97, 108, 116], n, a⟩ :: l) (long := long) i s).symm
  have S1 := fun i s => (sign_rd (long := long) G i s (p := 44) (by decide)).symm; have S2 := fun i s => (sign_rd (long := long) G i s (p := 91) (by decide)).symm; have S3 := fun i s => (sign_rd (long := long) G i s (p := 43) (by decide)).symm; have S4 := fun i s => (sign_rd (long := long) G i s (p := 93) (by decide)).symm
  show run _ _ forms[19].rest _ = _
  simp only [forms, List.getElem_cons_succ, List.getElem_cons_zero, begin_, run, List.foldl_cons, List.foldl_nil, r32, D, A, B, O, L, N, S1, S2, S3, S4]
  unfold Sy.item
  simp only [tok0, step0]
  rfl

set_option maxHeartbeats 4000000 in
theorem same_add (n : Int) (a : Nat) (G : ∀ x ∈ (⟨1, [97, 100, 100], n, a⟩ : Tk) :: l, Lx.Good x) : told (⟨1, [97, 100, 100], n, a⟩ :: l) long (best (⟨1, [97, 100, 100], n, a⟩ :: l) forms 0) = ended (⟨1, [97, 100, 100], n, a⟩ :: l) long (Sy.item (⟨1, [97, 100, 100], n, a⟩ :: l) long ⟨0, -1⟩) := by
  rw [only 8 (f := forms[8]) rfl rfl rfl, show fit (⟨1, [97, 100, 100], n, a⟩ :: l) forms[8] = fitG (⟨1, [97, 100, 100], n, a⟩ :: l) (begin_ forms[8]) forms[8].rest 0 from rfl, ← ended_run (ts := (⟨1, [97, 100, 100], n, a⟩ :: l)) _ _ ⟨0, -1⟩ (by decide) (Nat.zero_le _)]
  refine congrArg _ ?_
  have D := fun i s => (reg_rd (long := long) G i s).symm; have A := fun i s => (a_rd (long := long) G i s).symm; have B := fun i s => (b_rd (long := long) G i s).symm
  have O := fun i s => (op_rd (long := long) G i s).symm
  have S1 := fun i s => (sign_rd (long := long) G i s (p := 44) (by decide)).symm
  show run _ _ forms[8].rest _ = _
  simp only [forms, List.getElem_cons_succ, List.getElem_cons_zero, begin_, run, List.foldl_cons, List.foldl_nil, r32, O, D, A, B, S1]
  unfold Sy.item
  simp only [tok0, step0]
  rfl
set_option maxHeartbeats 4000000 in
theorem same_sub (n : Int) (a : Nat) (G : ∀ x ∈ (⟨1, [115, 117, 98], n, a⟩ : Tk) :: l, Lx.Good x) : told (⟨1, [115, 117, 98], n, a⟩ :: l) long (best (⟨1, [115, 117, 98], n, a⟩ :: l) forms 0) = ended (⟨1, [115, 117, 98], n, a⟩ :: l) long (Sy.item (⟨1, [115, 117, 98], n, a⟩ :: l) long ⟨0, -1⟩) := by
  rw [only 8 (f := forms[8]) rfl rfl rfl, show fit (⟨1, [115, 117, 98], n, a⟩ :: l) forms[8] = fitG (⟨1, [115, 117, 98], n, a⟩ :: l) (begin_ forms[8]) forms[8].rest 0 from rfl, ← ended_run (ts := (⟨1, [115, 117, 98], n, a⟩ :: l)) _ _ ⟨0, -1⟩ (by decide) (Nat.zero_le _)]
  refine congrArg _ ?_
  have D := fun i s => (reg_rd (long := long) G i s).symm; have A := fun i s => (a_rd (long := long) G i s).symm; have B := fun i s => (b_rd (long := long) G i s).symm
  have O := fun i s => (op_rd (long := long) G i s).symm
  have S1 := fun i s => (sign_rd (long := long) G i s (p := 44) (by decide)).symm
  show run _ _ forms[8].rest _ = _
  simp only [forms, List.getElem_cons_succ, List.getElem_cons_zero, begin_, run, List.foldl_cons, List.foldl_nil, r32, O, D, A, B, S1]
  unfold Sy.item
  simp only [tok0, step0]
  rfl
set_option maxHeartbeats 4000000 in
theorem same_and (n : Int) (a : Nat) (G : ∀ x ∈ (⟨1, [97, 110, 100], n, a⟩ : Tk) :: l, Lx.Good x) : told (⟨1, [97, 110, 100], n, a⟩ :: l) long (best (⟨1, [97, 110, 100], n, a⟩ :: l) forms 0) = ended (⟨1, [97, 110, 100], n, a⟩ :: l) long (Sy.item (⟨1, [97, 110, 100], n, a⟩ :: l) long ⟨0, -1⟩) := by
  rw [only 8 (f := forms[8]) rfl rfl rfl, show fit (⟨1, [97, 110, 100], n, a⟩ :: l) forms[8] = fitG (⟨1, [97, 110, 100], n, a⟩ :: l) (begin_ forms[8]) forms[8].rest 0 from rfl, ← ended_run (ts := (⟨1, [97, 110, 100], n, a⟩ :: l)) _ _ ⟨0, -1⟩ (by decide) (Nat.zero_le _)]
  refine congrArg _ ?_
  have D := fun i s => (reg_rd (long := long) G i s).symm; have A := fun i s => (a_rd (long := long) G i s).symm; have B := fun i s => (b_rd (long := long) G i s).symm
  have O := fun i s => (op_rd (long := long) G i s).symm
  have S1 := fun i s => (sign_rd (long := long) G i s (p := 44) (by decide)).symm
  show run _ _ forms[8].rest _ = _
  simp only [forms, List.getElem_cons_succ, List.getElem_cons_zero, begin_, run, List.foldl_cons, List.foldl_nil, r32, O, D, A, B, S1]
  unfold Sy.item
  simp only [tok0, step0]
  rfl
set_option maxHeartbeats 4000000 in
theorem same_or (n : Int) (a : Nat) (G : ∀ x ∈ (⟨1, [111, 114], n, a⟩ : Tk) :: l, Lx.Good x) : told (⟨1, [111, 114], n, a⟩ :: l) long (best (⟨1, [111, 114], n, a⟩ :: l) forms 0) = ended (⟨1, [111, 114], n, a⟩ :: l) long (Sy.item (⟨1, [111, 114], n, a⟩ :: l) long ⟨0, -1⟩) := by
  rw [only 8 (f := forms[8]) rfl rfl rfl, show fit (⟨1, [111, 114], n, a⟩ :: l) forms[8] = fitG (⟨1, [111, 114], n, a⟩ :: l) (begin_ forms[8]) forms[8].rest 0 from rfl, ← ended_run (ts := (⟨1, [111, 114], n, a⟩ :: l)) _ _ ⟨0, -1⟩ (by decide) (Nat.zero_le _)]
  refine congrArg _ ?_
  have D := fun i s => (reg_rd (long := long) G i s).symm; have A := fun i s => (a_rd (long := long) G i s).symm; have B := fun i s => (b_rd (long := long) G i s).symm
  have O := fun i s => (op_rd (long := long) G i s).symm
  have S1 := fun i s => (sign_rd (long := long) G i s (p := 44) (by decide)).symm
  show run _ _ forms[8].rest _ = _
  simp only [forms, List.getElem_cons_succ, List.getElem_cons_zero, begin_, run, List.foldl_cons, List.foldl_nil, r32, O, D, A, B, S1]
  unfold Sy.item
  simp only [tok0, step0]
  rfl
set_option maxHeartbeats 4000000 in
theorem same_xor (n : Int) (a : Nat) (G : ∀ x ∈ (⟨1, [120, 111, 114], n, a⟩ : Tk) :: l, Lx.Good x) : told (⟨1, [120, 111, 114], n, a⟩ :: l) long (best (⟨1, [120, 111, 114], n, a⟩ :: l) forms 0) = ended (⟨1, [120, 111, 114], n, a⟩ :: l) long (Sy.item (⟨1, [120, 111, 114], n, a⟩ :: l) long ⟨0, -1⟩) := by
  rw [only 8 (f := forms[8]) rfl rfl rfl, show fit (⟨1, [120, 111, 114], n, a⟩ :: l) forms[8] = fitG (⟨1, [120, 111, 114], n, a⟩ :: l) (begin_ forms[8]) forms[8].rest 0 from rfl, ← ended_run (ts := (⟨1, [120, 111, 114], n, a⟩ :: l)) _ _ ⟨0, -1⟩ (by decide) (Nat.zero_le _)]
  refine congrArg _ ?_
  have D := fun i s => (reg_rd (long := long) G i s).symm; have A := fun i s => (a_rd (long := long) G i s).symm; have B := fun i s => (b_rd (long := long) G i s).symm
  have O := fun i s => (op_rd (long := long) G i s).symm
  have S1 := fun i s => (sign_rd (long := long) G i s (p := 44) (by decide)).symm
  show run _ _ forms[8].rest _ = _
  simp only [forms, List.getElem_cons_succ, List.getElem_cons_zero, begin_, run, List.foldl_cons, List.foldl_nil, r32, O, D, A, B, S1]
  unfold Sy.item
  simp only [tok0, step0]
  rfl
set_option maxHeartbeats 4000000 in
theorem same_shl (n : Int) (a : Nat) (G : ∀ x ∈ (⟨1, [115, 104, 108], n, a⟩ : Tk) :: l, Lx.Good x) : told (⟨1, [115, 104, 108], n, a⟩ :: l) long (best (⟨1, [115, 104, 108], n, a⟩ :: l) forms 0) = ended (⟨1, [115, 104, 108], n, a⟩ :: l) long (Sy.item (⟨1, [115, 104, 108], n, a⟩ :: l) long ⟨0, -1⟩) := by
  rw [only 8 (f := forms[8]) rfl rfl rfl, show fit (⟨1, [115, 104, 108], n, a⟩ :: l) forms[8] = fitG (⟨1, [115, 104, 108], n, a⟩ :: l) (begin_ forms[8]) forms[8].rest 0 from rfl, ← ended_run (ts := (⟨1, [115, 104, 108], n, a⟩ :: l)) _ _ ⟨0, -1⟩ (by decide) (Nat.zero_le _)]
  refine congrArg _ ?_
  have D := fun i s => (reg_rd (long := long) G i s).symm; have A := fun i s => (a_rd (long := long) G i s).symm; have B := fun i s => (b_rd (long := long) G i s).symm
  have O := fun i s => (op_rd (long := long) G i s).symm
  have S1 := fun i s => (sign_rd (long := long) G i s (p := 44) (by decide)).symm
  show run _ _ forms[8].rest _ = _
  simp only [forms, List.getElem_cons_succ, List.getElem_cons_zero, begin_, run, List.foldl_cons, List.foldl_nil, r32, O, D, A, B, S1]
  unfold Sy.item
  simp only [tok0, step0]
  rfl
set_option maxHeartbeats 4000000 in
theorem same_shr (n : Int) (a : Nat) (G : ∀ x ∈ (⟨1, [115, 104, 114], n, a⟩ : Tk) :: l, Lx.Good x) : told (⟨1, [115, 104, 114], n, a⟩ :: l) long (best (⟨1, [115, 104, 114], n, a⟩ :: l) forms 0) = ended (⟨1, [115, 104, 114], n, a⟩ :: l) long (Sy.item (⟨1, [115, 104, 114], n, a⟩ :: l) long ⟨0, -1⟩) := by
  rw [only 8 (f := forms[8]) rfl rfl rfl, show fit (⟨1, [115, 104, 114], n, a⟩ :: l) forms[8] = fitG (⟨1, [115, 104, 114], n, a⟩ :: l) (begin_ forms[8]) forms[8].rest 0 from rfl, ← ended_run (ts := (⟨1, [115, 104, 114], n, a⟩ :: l)) _ _ ⟨0, -1⟩ (by decide) (Nat.zero_le _)]
  refine congrArg _ ?_
  have D := fun i s => (reg_rd (long := long) G i s).symm; have A := fun i s => (a_rd (long := long) G i s).symm; have B := fun i s => (b_rd (long := long) G i s).symm
  have O := fun i s => (op_rd (long := long) G i s).symm
  have S1 := fun i s => (sign_rd (long := long) G i s (p := 44) (by decide)).symm
  show run _ _ forms[8].rest _ = _
  simp only [forms, List.getElem_cons_succ, List.getElem_cons_zero, begin_, run, List.foldl_cons, List.foldl_nil, r32, O, D, A, B, S1]
  unfold Sy.item
  simp only [tok0, step0]
  rfl
set_option maxHeartbeats 4000000 in
theorem same_mul (n : Int) (a : Nat) (G : ∀ x ∈ (⟨1, [109, 117, 108], n, a⟩ : Tk) :: l, Lx.Good x) : told (⟨1, [109, 117, 108], n, a⟩ :: l) long (best (⟨1, [109, 117, 108], n, a⟩ :: l) forms 0) = ended (⟨1, [109, 117, 108], n, a⟩ :: l) long (Sy.item (⟨1, [109, 117, 108], n, a⟩ :: l) long ⟨0, -1⟩) := by
  rw [only 8 (f := forms[8]) rfl rfl rfl, show fit (⟨1, [109, 117, 108], n, a⟩ :: l) forms[8] = fitG (⟨1, [109, 117, 108], n, a⟩ :: l) (begin_ forms[8]) forms[8].rest 0 from rfl, ← ended_run (ts := (⟨1, [109, 117, 108], n, a⟩ :: l)) _ _ ⟨0, -1⟩ (by decide) (Nat.zero_le _)]
  refine congrArg _ ?_
  have D := fun i s => (reg_rd (long := long) G i s).symm; have A := fun i s => (a_rd (long := long) G i s).symm; have B := fun i s => (b_rd (long := long) G i s).symm
  have O := fun i s => (op_rd (long := long) G i s).symm
  have S1 := fun i s => (sign_rd (long := long) G i s (p := 44) (by decide)).symm
  show run _ _ forms[8].rest _ = _
  simp only [forms, List.getElem_cons_succ, List.getElem_cons_zero, begin_, run, List.foldl_cons, List.foldl_nil, r32, O, D, A, B, S1]
  unfold Sy.item
  simp only [tok0, step0]
  rfl
set_option maxHeartbeats 4000000 in
theorem same_lt (n : Int) (a : Nat) (G : ∀ x ∈ (⟨1, [108, 116], n, a⟩ : Tk) :: l, Lx.Good x) : told (⟨1, [108, 116], n, a⟩ :: l) long (best (⟨1, [108, 116], n, a⟩ :: l) forms 0) = ended (⟨1, [108, 116], n, a⟩ :: l) long (Sy.item (⟨1, [108, 116], n, a⟩ :: l) long ⟨0, -1⟩) := by
  rw [only 8 (f := forms[8]) rfl rfl rfl, show fit (⟨1, [108, 116], n, a⟩ :: l) forms[8] = fitG (⟨1, [108, 116], n, a⟩ :: l) (begin_ forms[8]) forms[8].rest 0 from rfl, ← ended_run (ts := (⟨1, [108, 116], n, a⟩ :: l)) _ _ ⟨0, -1⟩ (by decide) (Nat.zero_le _)]
  refine congrArg _ ?_
  have D := fun i s => (reg_rd (long := long) G i s).symm; have A := fun i s => (a_rd (long := long) G i s).symm; have B := fun i s => (b_rd (long := long) G i s).symm
  have O := fun i s => (op_rd (long := long) G i s).symm
  have S1 := fun i s => (sign_rd (long := long) G i s (p := 44) (by decide)).symm
  show run _ _ forms[8].rest _ = _
  simp only [forms, List.getElem_cons_succ, List.getElem_cons_zero, begin_, run, List.foldl_cons, List.foldl_nil, r32, O, D, A, B, S1]
  unfold Sy.item
  simp only [tok0, step0]
  rfl
set_option maxHeartbeats 4000000 in
theorem same_eq (n : Int) (a : Nat) (G : ∀ x ∈ (⟨1, [101, 113], n, a⟩ : Tk) :: l, Lx.Good x) : told (⟨1, [101, 113], n, a⟩ :: l) long (best (⟨1, [101, 113], n, a⟩ :: l) forms 0) = ended (⟨1, [101, 113], n, a⟩ :: l) long (Sy.item (⟨1, [101, 113], n, a⟩ :: l) long ⟨0, -1⟩) := by
  rw [only 8 (f := forms[8]) rfl rfl rfl, show fit (⟨1, [101, 113], n, a⟩ :: l) forms[8] = fitG (⟨1, [101, 113], n, a⟩ :: l) (begin_ forms[8]) forms[8].rest 0 from rfl, ← ended_run (ts := (⟨1, [101, 113], n, a⟩ :: l)) _ _ ⟨0, -1⟩ (by decide) (Nat.zero_le _)]
  refine congrArg _ ?_
  have D := fun i s => (reg_rd (long := long) G i s).symm; have A := fun i s => (a_rd (long := long) G i s).symm; have B := fun i s => (b_rd (long := long) G i s).symm
  have O := fun i s => (op_rd (long := long) G i s).symm
  have S1 := fun i s => (sign_rd (long := long) G i s (p := 44) (by decide)).symm
  show run _ _ forms[8].rest _ = _
  simp only [forms, List.getElem_cons_succ, List.getElem_cons_zero, begin_, run, List.foldl_cons, List.foldl_nil, r32, O, D, A, B, S1]
  unfold Sy.item
  simp only [tok0, step0]
  rfl
end
end Sn
end Go.Proofs.YtcpbbkpfickfiaaDoor
