/- The first form that fits whole, for every row of signs: what is declared, labels, all else. -/
import Derived.Test.YtcpbbkpfickfiaaDoorSnBest
set_option linter.unusedVariables false
set_option linter.unusedSimpArgs false
namespace Go.Proofs.YtcpbbkpfickfiaaDoor
namespace Sn
open Lx (Tk)
open Sy (In It Vl St)
section
variable {t : Tk} {l : List Tk} {long : Nat}
def two (x y : Except Nat It) : Except Nat It := match x with
  | .ok i => .ok i
  | .error n => match y with
    | .ok i => .ok i
    | .error m => .error (max n m)
theorem best_two {ts : List Tk} {A B C : List Fm} {f g : Fm} (hF : forms = A ++ f :: (B ++ g :: C)) (hA : ∀ x ∈ A, fit ts x = .error 0) (hB : ∀ x ∈ B, fit ts x = .error 0) (hC : ∀ x ∈ C, fit ts x = .error 0) :
    best ts forms 0 = two (fit ts f) (fit ts g) := by
  unfold two
  rw [hF, best_skip _ _ _ hA, best]
  cases fit ts f with
  | ok i => rfl
  | error n =>
    simp only [best_skip _ _ _ hB, best]
    cases fit ts g with
    | ok i => rfl
    | error m => simp only [best_zero _ _ hC]; simp
theorem fitG_le {ts : List Tk} {i : It} {r : List Int} {k m : Nat} (hk : k ≤ ts.length) (h : fitG ts i r k = .error m) : k ≤ m := by
  have := fitG_run (ts := ts) (long := 0) r i ⟨k, -1⟩ (by show (-1 : Int) < 0; decide) hk
  rw [h] at this
  exact this.1
theorem max_r {ts : List Tk} {long : Nat} {x y : Except Nat It} (hx : x = .error 1) (hy : ∀ m, y = .error m → 1 ≤ m) :
    told ts long (two x y) = told ts long y := by
  subst hx
  cases y with
  | ok i => rfl
  | error m => unfold two; simp only; rw [Nat.max_eq_right (hy m rfl)]
theorem max_l {ts : List Tk} {long : Nat} {x y : Except Nat It} (hy : y = .error 1) (hx : ∀ m, x = .error m → 1 ≤ m) :
    told ts long (two x y) = told ts long x := by
  subst hy
  cases x with
  | ok i => rfl
  | error m => unfold two; simp only; rw [Nat.max_eq_left (hx m rfl)]
theorem stuck {ts : List Tk} {i : It} {p : Int} {r : List Int} {k : Nat} (hp : p ≠ 32) (h : (take i p (Sy.tokAt ts 0 k)).2 = false) : fitG ts i (32 :: p :: r) k = .error k := by
  rw [fitG, if_pos rfl, fitG, if_neg hp]
  cases e : ts[k]? with
  | none => rfl
  | some t =>
    have et : Sy.tokAt ts 0 k = t := by unfold Sy.tokAt; rw [e]; rfl
    rw [et] at h
    simp [h]

set_option maxHeartbeats 4000000 in
theorem same_public (n : Int) (a : Nat) (G : ∀ x ∈ (⟨1, [112, 117, 98, 108, 105, 99], n, a⟩ : Tk) :: l, Lx.Good x) : told (⟨1, [112, 117, 98, 108, 105, 99], n, a⟩ :: l) long (best (⟨1, [112, 117, 98, 108, 105, 99], n, a⟩ :: l) forms 0) = ended (⟨1, [112, 117, 98, 108, 105, 99], n, a⟩ :: l) long (Sy.item (⟨1, [112, 117, 98, 108, 105, 99], n, a⟩ :: l) long ⟨0, -1⟩) := by
  rw [best_two (A := forms.take 3) (f := forms[3]) (B := [forms[4]]) (g := forms[5]) (C := forms.drop 6) rfl (all_zero (fun g hg => List.mem_of_mem_take hg) rfl) (all_zero (fun g hg => by simp only [List.mem_singleton] at hg; subst hg; simp [forms]) rfl) (all_zero (fun g hg => List.mem_of_mem_drop hg) rfl)]
  rw [fit_self (f := forms[3]) (by decide) rfl, fit_self (f := forms[5]) (by decide) rfl]
  have D := fun i s => (reg_rd (long := long) G i s).symm; have M := fun i s => (name_rd (long := long) G i s).symm; have N := fun i s => (num_rd (ts := (⟨1, [112, 117, 98, 108, 105, 99], n, a⟩ :: l)) (long := long) i s).symm
  have ok1 := okt_tok G 0 1
  have et : ∀ q, (Sy.tokAt (⟨1, [112, 117, 98, 108, 105, 99], n, a⟩ :: l) q 1).text = (Sy.tokAt (⟨1, [112, 117, 98, 108, 105, 99], n, a⟩ :: l) 0 1).text ∧ (Sy.tokAt (⟨1, [112, 117, 98, 108, 105, 99], n, a⟩ :: l) q 1).kind = (Sy.tokAt (⟨1, [112, 117, 98, 108, 105, 99], n, a⟩ :: l) 0 1).kind := fun q => by
    unfold Sy.tokAt
    cases ((⟨1, [112, 117, 98, 108, 105, 99], n, a⟩ :: l)[1]?) <;> exact ⟨rfl, rfl⟩
  have hI : Sy.item (⟨1, [112, 117, 98, 108, 105, 99], n, a⟩ :: l) long ⟨0, -1⟩ = Sy.declare (⟨1, [112, 117, 98, 108, 105, 99], n, a⟩ :: l) long false ⟨1, -1⟩ := by
    unfold Sy.item
    simp only [tok0, step0]
    rfl
  rw [hI]
  by_cases hr : 0 ≤ Sy.regN (Sy.tokAt (⟨1, [112, 117, 98, 108, 105, 99], n, a⟩ :: l) 0 1).text
  · have hk := ok1.reg1 hr
    refine Eq.trans (max_l (stuck (ts := (⟨1, [112, 117, 98, 108, 105, 99], n, a⟩ :: l)) (i := begin_ forms[5]) (p := 77) (r := [32, 78]) (by decide) (by simp [take, isNm, hk, hr])) (fun m hm => fitG_le len1 hm)) ?_
    rw [← ended_run (ts := (⟨1, [112, 117, 98, 108, 105, 99], n, a⟩ :: l)) _ _ ⟨1, -1⟩ (by decide) len1]
    refine congrArg _ ?_
    show run _ _ forms[3].rest _ = _
    simp only [forms, List.getElem_cons_succ, List.getElem_cons_zero, begin_, run, List.foldl_cons, List.foldl_nil, r32, D]
    unfold Sy.declare Sy.reg
    simp only [(et long).1, (et long).2, hk, hr, and_self, if_true]
    rfl
  · refine Eq.trans (max_r (stuck (ts := (⟨1, [112, 117, 98, 108, 105, 99], n, a⟩ :: l)) (i := begin_ forms[3]) (p := 68) (r := []) (by decide) (by simp [take, hr])) (fun m hm => fitG_le len1 hm)) ?_
    rw [← ended_run (ts := (⟨1, [112, 117, 98, 108, 105, 99], n, a⟩ :: l)) _ _ ⟨1, -1⟩ (by decide) len1]
    refine congrArg _ ?_
    show run _ _ forms[5].rest _ = _
    simp only [forms, List.getElem_cons_succ, List.getElem_cons_zero, begin_, run, List.foldl_cons, List.foldl_nil, r32, M, N]
    unfold Sy.declare Sy.name
    simp only [(et long).1, (et long).2, hr, and_false, if_false]
    rfl
set_option maxHeartbeats 4000000 in
theorem same_secret (n : Int) (a : Nat) (G : ∀ x ∈ (⟨1, [115, 101, 99, 114, 101, 116], n, a⟩ : Tk) :: l, Lx.Good x) : told (⟨1, [115, 101, 99, 114, 101, 116], n, a⟩ :: l) long (best (⟨1, [115, 101, 99, 114, 101, 116], n, a⟩ :: l) forms 0) = ended (⟨1, [115, 101, 99, 114, 101, 116], n, a⟩ :: l) long (Sy.item (⟨1, [115, 101, 99, 114, 101, 116], n, a⟩ :: l) long ⟨0, -1⟩) := by
  rw [best_two (A := forms.take 4) (f := forms[4]) (B := [forms[5]]) (g := forms[6]) (C := forms.drop 7) rfl (all_zero (fun g hg => List.mem_of_mem_take hg) rfl) (all_zero (fun g hg => by simp only [List.mem_singleton] at hg; subst hg; simp [forms]) rfl) (all_zero (fun g hg => List.mem_of_mem_drop hg) rfl)]
  rw [fit_self (f := forms[4]) (by decide) rfl, fit_self (f := forms[6]) (by decide) rfl]
  have D := fun i s => (reg_rd (long := long) G i s).symm; have M := fun i s => (name_rd (long := long) G i s).symm; have N := fun i s => (num_rd (ts := (⟨1, [115, 101, 99, 114, 101, 116], n, a⟩ :: l)) (long := long) i s).symm
  have ok1 := okt_tok G 0 1
  have et : ∀ q, (Sy.tokAt (⟨1, [115, 101, 99, 114, 101, 116], n, a⟩ :: l) q 1).text = (Sy.tokAt (⟨1, [115, 101, 99, 114, 101, 116], n, a⟩ :: l) 0 1).text ∧ (Sy.tokAt (⟨1, [115, 101, 99, 114, 101, 116], n, a⟩ :: l) q 1).kind = (Sy.tokAt (⟨1, [115, 101, 99, 114, 101, 116], n, a⟩ :: l) 0 1).kind := fun q => by
    unfold Sy.tokAt
    cases ((⟨1, [115, 101, 99, 114, 101, 116], n, a⟩ :: l)[1]?) <;> exact ⟨rfl, rfl⟩
  have hI : Sy.item (⟨1, [115, 101, 99, 114, 101, 116], n, a⟩ :: l) long ⟨0, -1⟩ = Sy.declare (⟨1, [115, 101, 99, 114, 101, 116], n, a⟩ :: l) long true ⟨1, -1⟩ := by
    unfold Sy.item
    simp only [tok0, step0]
    rfl
  rw [hI]
  by_cases hr : 0 ≤ Sy.regN (Sy.tokAt (⟨1, [115, 101, 99, 114, 101, 116], n, a⟩ :: l) 0 1).text
  · have hk := ok1.reg1 hr
    refine Eq.trans (max_l (stuck (ts := (⟨1, [115, 101, 99, 114, 101, 116], n, a⟩ :: l)) (i := begin_ forms[6]) (p := 77) (r := [32, 78]) (by decide) (by simp [take, isNm, hk, hr])) (fun m hm => fitG_le len1 hm)) ?_
    rw [← ended_run (ts := (⟨1, [115, 101, 99, 114, 101, 116], n, a⟩ :: l)) _ _ ⟨1, -1⟩ (by decide) len1]
    refine congrArg _ ?_
    show run _ _ forms[4].rest _ = _
    simp only [forms, List.getElem_cons_succ, List.getElem_cons_zero, begin_, run, List.foldl_cons, List.foldl_nil, r32, D]
    unfold Sy.declare Sy.reg
    simp only [(et long).1, (et long).2, hk, hr, and_self, if_true]
    rfl
  · refine Eq.trans (max_r (stuck (ts := (⟨1, [115, 101, 99, 114, 101, 116], n, a⟩ :: l)) (i := begin_ forms[4]) (p := 68) (r := []) (by decide) (by simp [take, hr])) (fun m hm => fitG_le len1 hm)) ?_
    rw [← ended_run (ts := (⟨1, [115, 101, 99, 114, 101, 116], n, a⟩ :: l)) _ _ ⟨1, -1⟩ (by decide) len1]
    refine congrArg _ ?_
    show run _ _ forms[6].rest _ = _
    simp only [forms, List.getElem_cons_succ, List.getElem_cons_zero, begin_, run, List.foldl_cons, List.foldl_nil, r32, M, N]
    unfold Sy.declare Sy.name
    simp only [(et long).1, (et long).2, hr, and_false, if_false]
    rfl
theorem app_false (hx : ∀ f ∈ forms, f.word ≠ [] → f.word ≠ t.text) (ho : Sy.opN t.text = 0) {g : Fm} (hg : g ∈ forms) (h7 : isNm t = false ∨ g.rest.head? ≠ some 77) : app t g = false := by
  unfold app
  by_cases hw : g.word = []
  · rw [if_pos hw]
    rcases h7 with h7 | h7
    · split
      · exact h7
      · simp [ho]
    · rw [if_neg h7]; simp [ho]
  · rw [if_neg hw]
    have := hx g hg hw
    simpa [eq_comm] using this
theorem same_label {k : Int} {tx : List Int} (n : Int) (a : Nat) (G : ∀ x ∈ (⟨k, tx, n, a⟩ : Tk) :: l, Lx.Good x) (hk : k = 1) (hw : Sy.isWord tx = false) : told (⟨k, tx, n, a⟩ :: l) long (best (⟨k, tx, n, a⟩ :: l) forms 0) = ended (⟨k, tx, n, a⟩ :: l) long (Sy.item (⟨k, tx, n, a⟩ :: l) long ⟨0, -1⟩) := by
  have hok : Okt ⟨k, tx, n, a⟩ := .inl (G _ (by simp))
  have hne : tx ≠ [] := by
    rcases hok with (⟨_, _, c, r, e, _⟩ | ⟨_, _, c, r, e, _⟩ | ⟨_, _, c, e, _⟩) | ⟨h1, _⟩
    · rw [show tx = c :: r from e]; simp
    · rw [show tx = c :: r from e]; simp
    · rw [show tx = [c] from e]; simp
    · rw [show k = 0 from h1] at hk; cases hk
  have hw' := hw
  rw [isWord_eq hne] at hw'
  simp only [Bool.or_eq_false_iff, decide_eq_false_iff_not] at hw'
  obtain ⟨h1, h2⟩ := hw'
  unfold isWordL at h1
  simp only [Bool.or_eq_false_iff, decide_eq_false_iff_not] at h1
  have ho : Sy.opN tx = 0 := by have := (Sy.opN_range tx).1; omega
  have hx : ∀ f ∈ forms, f.word ≠ [] → f.word ≠ tx := fun f hf _ e => by
    have := List.any_eq_false.1 h1.1 f hf
    simp [e] at this
  rw [only 7 (f := forms[7]) rfl (List.all_eq_true.2 fun g hg => by
      have h7 : ∀ g ∈ forms.take 7, g.rest.head? ≠ some 77 := by decide
      rw [app_false (t := ⟨k, tx, n, a⟩) hx ho (List.mem_of_mem_take hg) (.inr (h7 g hg))]; rfl) (List.all_eq_true.2 fun g hg => by
      have h7 : ∀ g ∈ forms.drop 8, g.rest.head? ≠ some 77 := by decide
      rw [app_false (t := ⟨k, tx, n, a⟩) hx ho (List.mem_of_mem_drop hg) (.inr (h7 g hg))]; rfl)]
  rw [show fit (⟨k, tx, n, a⟩ :: l) forms[7] = fitG (⟨k, tx, n, a⟩ :: l) (begin_ forms[7]) forms[7].rest 0 from rfl, ← ended_run (ts := ⟨k, tx, n, a⟩ :: l) _ _ ⟨0, -1⟩ (by decide) (Nat.zero_le _)]
  refine congrArg _ ?_
  have M := fun i s => (name_rd (long := long) G i s).symm
  have S1 := fun i s => (sign_rd (long := long) G i s (p := 58) (by decide)).symm
  show run _ _ forms[7].rest _ = _
  simp only [forms, List.getElem_cons_succ, List.getElem_cons_zero, begin_, run, List.foldl_cons, List.foldl_nil, M, S1]
  have hword : ∀ x, Sy.isWord x = true → tx ≠ x := fun x h e => by rw [← e, hw] at h; cases h
  unfold Sy.item Sy.name
  simp only [tok0, step0, hk, hw, show Sy.regN tx < 0 by omega, and_self, if_true, if_neg (hword _ (show Sy.isWord [119, 105, 100, 116, 104] = true by decide)), if_neg (hword _ (show Sy.isWord [119, 105, 110, 100, 111, 119] = true by decide)), if_neg (hword _ (show Sy.isWord [102, 117, 101, 108] = true by decide)),
    if_neg (hword _ (show Sy.isWord [112, 117, 98, 108, 105, 99] = true by decide)), if_neg (hword _ (show Sy.isWord [115, 101, 99, 114, 101, 116] = true by decide)), Bool.false_eq_true, if_false]
  rfl
theorem same_other {k : Int} {tx : List Int} (n : Int) (a : Nat) (G : ∀ x ∈ (⟨k, tx, n, a⟩ : Tk) :: l, Lx.Good x) (hk : ¬ (k = 1 ∧ Sy.regN tx < 0)) : told (⟨k, tx, n, a⟩ :: l) long (best (⟨k, tx, n, a⟩ :: l) forms 0) = ended (⟨k, tx, n, a⟩ :: l) long (Sy.item (⟨k, tx, n, a⟩ :: l) long ⟨0, -1⟩) := by
  have hok : Okt ⟨k, tx, n, a⟩ := .inl (G _ (by simp))
  have ho : Sy.opN tx = 0 := by
    have := (Sy.opN_range tx).1
    by_cases h : 0 < Sy.opN tx
    · have := hok.op1 h
      exact absurd ⟨this.1, this.2.1⟩ hk
    · omega
  have hx : ∀ f ∈ forms, f.word ≠ [] → f.word ≠ tx := fun f hf hne e => by
    have key : ∀ f ∈ forms, f.word ≠ [] → (∃ c r, f.word = c :: r ∧ 97 ≤ c) ∧ Sy.regN f.word < 0 := by
      intro f hf hn
      simp only [forms, List.mem_cons, List.not_mem_nil, or_false] at hf
      rcases hf with rfl | rfl | rfl | rfl | rfl | rfl | rfl | rfl | rfl | rfl | rfl | rfl | rfl | rfl | rfl | rfl | rfl | rfl | rfl | rfl
      all_goals first | exact absurd rfl hn | exact ⟨⟨_, _, rfl, by decide⟩, by decide⟩
    obtain ⟨⟨c, r, e1, hc⟩, h2⟩ := key f hf hne
    rw [e] at e1 h2
    exact hk ⟨hok.lower1 e1 hc, h2⟩
  have hn : isNm ⟨k, tx, n, a⟩ = false := by
    unfold isNm
    by_cases h1 : k = 1
    · have : 0 ≤ Sy.regN tx := by
        by_cases h : Sy.regN tx < 0
        · exact absurd ⟨h1, h⟩ hk
        · omega
      simp [this]
    · simp [h1]
  rw [none_ (List.all_eq_true.2 fun g hg => by rw [app_false (t := ⟨k, tx, n, a⟩) hx ho hg (.inl hn)]; rfl)]
  unfold Sy.item
  simp only [tok0, step0]
  rw [if_neg hk]
  have e1 : Sy.fail a ⟨1, -1⟩ = ⟨1, (a : Int)⟩ := by unfold Sy.fail; rw [if_pos (by show (-1 : Int) < 0; decide)]
  have e2 : fin (⟨k, tx, n, a⟩ :: l) long ⟨1, (a : Int)⟩ = ⟨1, (a : Int)⟩ := by unfold fin; rw [if_neg (by simp only; omega)]
  rw [e1]
  unfold ended
  rw [e2, if_pos (by simp only; omega)]
  rfl
theorem same_best (h : ∀ x ∈ t :: l, Lx.Good x) : told (t :: l) long (best (t :: l) forms 0) = ended (t :: l) long (Sy.item (t :: l) long ⟨0, -1⟩) := by
  obtain ⟨k, tx, n, a⟩ := t
  by_cases hk : k = 1 ∧ Sy.regN tx < 0
  · obtain ⟨hk, hr⟩ := hk
    by_cases x_width : tx = [119, 105, 100, 116, 104]
    · subst hk x_width; exact same_width n a h
    by_cases x_window : tx = [119, 105, 110, 100, 111, 119]
    · subst hk x_window; exact same_window n a h
    by_cases x_fuel : tx = [102, 117, 101, 108]
    · subst hk x_fuel; exact same_fuel n a h
    by_cases x_mov : tx = [109, 111, 118]
    · subst hk x_mov; exact same_mov n a h
    by_cases x_load : tx = [108, 111, 97, 100]
    · subst hk x_load; exact same_load n a h
    by_cases x_store : tx = [115, 116, 111, 114, 101]
    · subst hk x_store; exact same_store n a h
    by_cases x_cmov : tx = [99, 109, 111, 118]
    · subst hk x_cmov; exact same_cmov n a h
    by_cases x_br : tx = [98, 114]
    · subst hk x_br; exact same_br n a h
    by_cases x_jmp : tx = [106, 109, 112]
    · subst hk x_jmp; exact same_jmp n a h
    by_cases x_call : tx = [99, 97, 108, 108]
    · subst hk x_call; exact same_call n a h
    by_cases x_ind : tx = [105, 110, 100]
    · subst hk x_ind; exact same_ind n a h
    by_cases x_ret : tx = [114, 101, 116]
    · subst hk x_ret; exact same_ret n a h
    by_cases x_fence : tx = [102, 101, 110, 99, 101]
    · subst hk x_fence; exact same_fence n a h
    by_cases x_halt : tx = [104, 97, 108, 116]
    · subst hk x_halt; exact same_halt n a h
    by_cases x_public : tx = [112, 117, 98, 108, 105, 99]
    · subst hk x_public; exact same_public n a h
    by_cases x_secret : tx = [115, 101, 99, 114, 101, 116]
    · subst hk x_secret; exact same_secret n a h
    by_cases hw : Sy.isWord tx = true
    · have hm : 0 < Sy.opN tx := by
        unfold Sy.isWord at hw
        simp only [Bool.or_eq_true, decide_eq_true_eq] at hw
        rcases hw with (hw | hw) | hw
        · exfalso
          rw [List.contains_iff_mem] at hw
          simp only [Sy.words, List.mem_cons, List.not_mem_nil, or_false] at hw
          rcases hw with hw | hw | hw | hw | hw | hw | hw | hw | hw | hw | hw | hw | hw | hw | hw | hw <;> contradiction
        · exact hw
        · omega
      have hm := opN_mem hm
      simp only [Sy.ops, List.mem_cons, List.not_mem_nil, or_false] at hm
      subst hk
      rcases hm with rfl | rfl | rfl | rfl | rfl | rfl | rfl | rfl | rfl | rfl
      · exact same_add n a h
      · exact same_sub n a h
      · exact same_and n a h
      · exact same_or n a h
      · exact same_xor n a h
      · exact same_shl n a h
      · exact same_shr n a h
      · exact same_mul n a h
      · exact same_lt n a h
      · exact same_eq n a h
    · exact same_label n a h hk (by simpa using hw)
  · exact same_other n a h hk
end
/-- the landed way of reading is the document's -/
theorem parse_same {ts : List Tk} (G : ∀ x ∈ ts, Lx.Good x) (long : Nat) : parseT ts long = Sy.parseT ts long := by
  cases ts with
  | nil => rfl
  | cons t l =>
    have h := same_best (long := long) G
    unfold parseT Sy.parseT
    rw [if_neg (by simp), if_neg (by simp)]
    exact h
end Sn
end Go.Proofs.YtcpbbkpfickfiaaDoor
