/- What a line tells is an item as it may be; what is printed. -/
import Derived.Test.YtcpbbkpfickfiaaDoorSySay
set_option linter.unusedVariables false
set_option linter.unusedSimpArgs false
namespace Go.Proofs.YtcpbbkpfickfiaaDoor
namespace Sy
open Lx (Tk)
theorem fail_bad (p : Nat) (s : St) : 0 ≤ (fail p s).bad := by
  unfold fail
  split
  · exact Int.natCast_nonneg p
  · omega
section
variable {ts : List Tk} {long : Nat}
theorem step_bad (s : St) : (step ts s).bad = s.bad := by unfold step; split <;> rfl
theorem no_fail {p : Nat} {s : St} (h : (fail p s).bad < 0) : False := by have := fail_bad p s; omega
theorem regN_le (t : List Int) : regN t ≤ 3 := by
  unfold regN
  split
  · split <;> omega
  · omega
theorem tok_mem {k : Nat} (h : (tokAt ts long k).kind ≠ 0) : tokAt ts long k ∈ ts := by
  unfold tokAt at *
  cases e : ts[k]? with
  | none => rw [e] at h; exact absurd rfl h
  | some t => rw [e] at h; exact List.mem_of_getElem? e
theorem sign_inv {c : Int} {s : St} (h : (sign ts long c s).bad < 0) : s.bad < 0 := by
  unfold sign at h
  dsimp only at h
  split at h
  · rwa [step_bad] at h
  · exact (no_fail h).elim
theorem reg_inv {s s1 : St} {d : Int} (e : reg ts long s = (d, s1)) (h : s1.bad < 0) : s.bad < 0 ∧ okR d := by
  unfold reg at e
  dsimp only at e
  split at e
  · rename_i hc
    injection e with e1 e2
    subst e1 e2
    rw [step_bad] at h
    exact ⟨h, hc.2, regN_le _⟩
  · injection e with e1 e2
    subst e2
    exact (no_fail h).elim
theorem good_okN {t : Tk} (h : Lx.Good t) (hk : t.kind = 2) : okN t.n := by
  rcases h with ⟨h1, _⟩ | ⟨_, h2, c, r, e, h3, h4⟩ | ⟨h1, _⟩
  · rw [hk] at h1; cases h1
  · have hd : ∀ x ∈ t.text, Lx.dig x = true := fun x hx => by
      rw [← h4, e] at hx
      exact digs_dig h3 x hx
    have h5 : t.text.length ≤ 5 := by rw [← h4]; exact digs_five _
    have h6 := val_bd t.text hd
    have h7 : (10 : Int) ^ t.text.length ≤ 100000 := by
      generalize t.text.length = m at *
      rcases (by omega : m = 0 ∨ m = 1 ∨ m = 2 ∨ m = 3 ∨ m = 4 ∨ m = 5) with rfl | rfl | rfl | rfl | rfl | rfl <;> decide
    rw [h2]
    exact ⟨h6.1, by omega⟩
  · rw [hk] at h1; cases h1
theorem vl_inv (G : ∀ t ∈ ts, Lx.Good t) {s s1 : St} {v : Vl} (e : vl ts long s = (v, s1)) (h : s1.bad < 0) : s.bad < 0 ∧ okV v := by
  unfold vl at e
  dsimp only at e
  split at e
  · rename_i hc
    injection e with e1 e2
    subst e1 e2
    rw [step_bad] at h
    exact ⟨h, .inr ⟨rfl, good_okN (G _ (tok_mem (by rw [hc]; decide))) hc⟩⟩
  · split at e
    · rename_i hc
      injection e with e1 e2
      subst e1 e2
      rw [step_bad] at h
      exact ⟨h, .inl ⟨rfl, hc.2, regN_le _⟩⟩
    · injection e with e1 e2
      subst e2
      exact (no_fail h).elim
theorem num_inv (G : ∀ t ∈ ts, Lx.Good t) {s s1 : St} {n : Int} (e : num ts long s = (n, s1)) (h : s1.bad < 0) : s.bad < 0 ∧ okN n := by
  unfold num at e
  dsimp only at e
  injection e with e1 e2
  split at e2
  · rename_i hc
    subst e1 e2
    rw [step_bad] at h
    exact ⟨h, good_okN (G _ (tok_mem (by rw [hc]; decide))) hc⟩
  · subst e2
    exact (no_fail h).elim
theorem good_okName {t : Tk} (h : Lx.Good t) (hk : t.kind = 1) (hw : isWord t.text = false) : okName t.text := by
  rcases h with ⟨_, _, c, r, e, h1, h2⟩ | ⟨h1, _⟩ | ⟨h1, _⟩
  · exact ⟨⟨c, r, e, h1, h2⟩, hw⟩
  · rw [hk] at h1; cases h1
  · rw [hk] at h1; cases h1
theorem name_inv (G : ∀ t ∈ ts, Lx.Good t) {s s1 : St} {m : List Int} (e : name ts long s = (m, s1)) (h : s1.bad < 0) : s.bad < 0 ∧ okName m := by
  unfold name at e
  dsimp only at e
  injection e with e1 e2
  split at e2
  · rename_i hc
    subst e1 e2
    rw [step_bad] at h
    exact ⟨h, good_okName (G _ (tok_mem (by rw [hc.1]; decide))) hc.1 hc.2⟩
  · subst e2
    exact (no_fail h).elim
theorem addr_inv (G : ∀ t ∈ ts, Lx.Good t) {s s1 : St} {p : Vl × Vl} (e : address ts long s = (p, s1)) (h : s1.bad < 0) : s.bad < 0 ∧ okV p.1 ∧ okV p.2 := by
  unfold address at e
  obtain ⟨⟨a, s2⟩, e1⟩ : ∃ x, vl ts long (sign ts long 91 s) = x := ⟨_, rfl⟩
  simp only [e1] at e
  obtain ⟨⟨b, s3⟩, e2⟩ : ∃ x, vl ts long (sign ts long 43 s2) = x := ⟨_, rfl⟩
  simp only [e2] at e
  injection e with e3 e4
  subst e3 e4
  have h1 := sign_inv h
  obtain ⟨h2, hb⟩ := vl_inv G e2 h1
  obtain ⟨h3, ha⟩ := vl_inv G e1 (sign_inv h2)
  exact ⟨sign_inv h3, ha, hb⟩
theorem opN_range (w : List Int) : 0 ≤ opN w ∧ opN w ≤ 10 := by
  unfold opN ops
  simp only [opF]
  repeat' split
  all_goals omega
theorem ins_inv (G : ∀ t ∈ ts, Lx.Good t) {w : List Int} {s s1 : St} {i : In} (hw : isWord w = true) (hr : regN w < 0)
    (hne : w ≠ [119, 105, 100, 116, 104] ∧ w ≠ [119, 105, 110, 100, 111, 119] ∧ w ≠ [102, 117, 101, 108] ∧ w ≠ [112, 117, 98, 108, 105, 99] ∧ w ≠ [115, 101, 99, 114, 101, 116]) (e : ins ts long w s = (i, s1)) (h : s1.bad < 0) : OkI i := by
  unfold ins at e
  by_cases w0 : w = [109, 111, 118]
  · simp only [if_pos w0] at e
    obtain ⟨⟨d, s2⟩, e_s2⟩ : ∃ x, reg ts long s = x := ⟨_, rfl⟩
    simp only [e_s2] at e
    obtain ⟨⟨a, s3⟩, e_s3⟩ : ∃ x, vl ts long (sign ts long 44 s2) = x := ⟨_, rfl⟩
    simp only [e_s3] at e
    injection e with e3 e4
    subst e3 e4
    obtain ⟨h2, ha⟩ := vl_inv G e_s3 h
    obtain ⟨h3, hd⟩ := reg_inv e_s2 (sign_inv h2)
    exact .alu ⟨by decide, by decide⟩ hd ha (.inr ⟨rfl, by decide, by decide⟩)
  by_cases w1 : w = [108, 111, 97, 100]
  · simp only [if_neg w0, if_pos w1] at e
    obtain ⟨⟨d, s2⟩, e_s2⟩ : ∃ x, reg ts long s = x := ⟨_, rfl⟩
    simp only [e_s2] at e
    obtain ⟨⟨p, s3⟩, e_s3⟩ : ∃ x, address ts long (sign ts long 44 s2) = x := ⟨_, rfl⟩
    simp only [e_s3] at e
    injection e with e3 e4
    subst e3 e4
    obtain ⟨h2, ha, hb⟩ := addr_inv G e_s3 h
    obtain ⟨h3, hd⟩ := reg_inv e_s2 (sign_inv h2)
    exact .load hd ha hb
  by_cases w2 : w = [115, 116, 111, 114, 101]
  · simp only [if_neg w0, if_neg w1, if_pos w2] at e
    obtain ⟨⟨p, s2⟩, e_s2⟩ : ∃ x, address ts long s = x := ⟨_, rfl⟩
    simp only [e_s2] at e
    obtain ⟨⟨d, s3⟩, e_s3⟩ : ∃ x, reg ts long (sign ts long 44 s2) = x := ⟨_, rfl⟩
    simp only [e_s3] at e
    injection e with e3 e4
    subst e3 e4
    obtain ⟨h2, hd⟩ := reg_inv e_s3 h
    obtain ⟨h3, ha, hb⟩ := addr_inv G e_s2 (sign_inv h2)
    exact .store hd ha hb
  by_cases w3 : w = [99, 109, 111, 118]
  · simp only [if_neg w0, if_neg w1, if_neg w2, if_pos w3] at e
    obtain ⟨⟨d, s2⟩, e_s2⟩ : ∃ x, reg ts long s = x := ⟨_, rfl⟩
    simp only [e_s2] at e
    obtain ⟨⟨a, s3⟩, e_s3⟩ : ∃ x, vl ts long (sign ts long 44 s2) = x := ⟨_, rfl⟩
    simp only [e_s3] at e
    obtain ⟨⟨b, s4⟩, e_s4⟩ : ∃ x, vl ts long (sign ts long 44 s3) = x := ⟨_, rfl⟩
    simp only [e_s4] at e
    injection e with e3 e4
    subst e3 e4
    obtain ⟨h1, hb⟩ := vl_inv G e_s4 h
    obtain ⟨h2, ha⟩ := vl_inv G e_s3 (sign_inv h1)
    obtain ⟨h3, hd⟩ := reg_inv e_s2 (sign_inv h2)
    exact .cmov hd ha hb
  by_cases w4 : w = [98, 114]
  · simp only [if_neg w0, if_neg w1, if_neg w2, if_neg w3, if_pos w4] at e
    obtain ⟨s0, e_s0⟩ : ∃ x, (if (tokAt ts long s.k).kind = 1 ∧ opN (tokAt ts long s.k).text ≠ 0 then step ts s else fail (tokAt ts long s.k).at_ (step ts s)) = x := ⟨_, rfl⟩
    simp only [e_s0] at e
    obtain ⟨⟨a, s2⟩, e_s2⟩ : ∃ x, vl ts long s0 = x := ⟨_, rfl⟩
    simp only [e_s2] at e
    obtain ⟨⟨b, s3⟩, e_s3⟩ : ∃ x, vl ts long (sign ts long 44 s2) = x := ⟨_, rfl⟩
    simp only [e_s3] at e
    obtain ⟨⟨m, s4⟩, e_s4⟩ : ∃ x, name ts long (sign ts long 44 s3) = x := ⟨_, rfl⟩
    simp only [e_s4] at e
    injection e with e3 e4
    subst e3 e4
    obtain ⟨h1, hm⟩ := name_inv G e_s4 h
    obtain ⟨h2, hb⟩ := vl_inv G e_s3 (sign_inv h1)
    obtain ⟨h3, ha⟩ := vl_inv G e_s2 (sign_inv h2)
    split at e_s0
    · rename_i hc
      have := opN_range (tokAt ts long s.k).text
      exact .br ⟨by omega, this.2⟩ ha hb hm
    · subst e_s0
      exact (no_fail h3).elim
  by_cases w5 : w = [106, 109, 112]
  · simp only [if_neg w0, if_neg w1, if_neg w2, if_neg w3, if_neg w4, if_pos w5] at e
    obtain ⟨⟨m, s2⟩, e_s2⟩ : ∃ x, name ts long s = x := ⟨_, rfl⟩
    simp only [e_s2] at e
    injection e with e3 e4
    subst e3 e4
    exact .jmp (name_inv G e_s2 h).2
  by_cases w6 : w = [99, 97, 108, 108]
  · simp only [if_neg w0, if_neg w1, if_neg w2, if_neg w3, if_neg w4, if_neg w5, if_pos w6] at e
    obtain ⟨⟨m, s2⟩, e_s2⟩ : ∃ x, name ts long s = x := ⟨_, rfl⟩
    simp only [e_s2] at e
    injection e with e3 e4
    subst e3 e4
    exact .call (name_inv G e_s2 h).2
  by_cases w7 : w = [105, 110, 100]
  · simp only [if_neg w0, if_neg w1, if_neg w2, if_neg w3, if_neg w4, if_neg w5, if_neg w6, if_pos w7] at e
    obtain ⟨⟨a, s2⟩, e_s2⟩ : ∃ x, vl ts long s = x := ⟨_, rfl⟩
    simp only [e_s2] at e
    injection e with e3 e4
    subst e3 e4
    exact .ind (vl_inv G e_s2 h).2
  by_cases w8 : w = [114, 101, 116]
  · simp only [if_neg w0, if_neg w1, if_neg w2, if_neg w3, if_neg w4, if_neg w5, if_neg w6, if_neg w7, if_pos w8] at e
    injection e with e3 e4
    subst e3 e4
    exact .ret
  by_cases w9 : w = [102, 101, 110, 99, 101]
  · simp only [if_neg w0, if_neg w1, if_neg w2, if_neg w3, if_neg w4, if_neg w5, if_neg w6, if_neg w7, if_neg w8, if_pos w9] at e
    injection e with e3 e4
    subst e3 e4
    exact .fence
  by_cases w10 : w = [104, 97, 108, 116]
  · simp only [if_neg w0, if_neg w1, if_neg w2, if_neg w3, if_neg w4, if_neg w5, if_neg w6, if_neg w7, if_neg w8, if_neg w9, if_pos w10] at e
    injection e with e3 e4
    subst e3 e4
    exact .halt
  simp only [if_neg w0, if_neg w1, if_neg w2, if_neg w3, if_neg w4, if_neg w5, if_neg w6, if_neg w7, if_neg w8, if_neg w9, if_neg w10] at e
  obtain ⟨⟨d, s2⟩, e_s2⟩ : ∃ x, reg ts long s = x := ⟨_, rfl⟩
  simp only [e_s2] at e
  obtain ⟨⟨a, s3⟩, e_s3⟩ : ∃ x, vl ts long (sign ts long 44 s2) = x := ⟨_, rfl⟩
  simp only [e_s3] at e
  obtain ⟨⟨b, s4⟩, e_s4⟩ : ∃ x, vl ts long (sign ts long 44 s3) = x := ⟨_, rfl⟩
  simp only [e_s4] at e
  injection e with e3 e4
  subst e3 e4
  obtain ⟨h1, hb⟩ := vl_inv G e_s4 h
  obtain ⟨h2, ha⟩ := vl_inv G e_s3 (sign_inv h1)
  obtain ⟨h3, hd⟩ := reg_inv e_s2 (sign_inv h2)
  have hr2 : decide (0 ≤ regN w) = false := by simpa using hr
  have hc : words.contains w = false := by
    rw [Bool.eq_false_iff]
    intro hc
    have hm := List.contains_iff_mem.1 hc
    simp only [words, List.mem_cons, List.not_mem_nil, or_false] at hm
    obtain ⟨n1, n2, n3, n4, n5⟩ := hne
    rcases hm with hm | hm | hm | hm | hm | hm | hm | hm | hm | hm | hm | hm | hm | hm | hm | hm
    · exact n1 hm
    · exact n2 hm
    · exact n3 hm
    · exact n4 hm
    · exact n5 hm
    · exact w0 hm
    · exact w1 hm
    · exact w2 hm
    · exact w3 hm
    · exact w4 hm
    · exact w5 hm
    · exact w6 hm
    · exact w7 hm
    · exact w8 hm
    · exact w9 hm
    · exact w10 hm
  unfold isWord at hw
  rw [hc, hr2] at hw
  have hop : 0 < opN w := by simpa using hw
  exact .alu ⟨by omega, (opN_range w).2⟩ hd ha hb
theorem decl_inv (G : ∀ t ∈ ts, Lx.Good t) {sec : Bool} {s s1 : St} {i : It} (e : declare ts long sec s = (i, s1)) (h : s1.bad < 0) : Ok i := by
  unfold declare at e
  dsimp only at e
  split at e
  · rename_i hc
    injection e with e3 e4
    subst e3
    exact .reg ⟨hc.2, regN_le _⟩
  · obtain ⟨s0, e_s0⟩ : ∃ x, (if (tokAt ts long s.k).kind = 1 ∧ isWord (tokAt ts long s.k).text = false then step ts s else fail (tokAt ts long s.k).at_ (step ts s)) = x := ⟨_, rfl⟩
    simp only [e_s0] at e
    obtain ⟨⟨n, s2⟩, e_s2⟩ : ∃ x, num ts long s0 = x := ⟨_, rfl⟩
    simp only [e_s2] at e
    injection e with e3 e4
    subst e3 e4
    obtain ⟨h1, hn⟩ := num_inv G e_s2 h
    split at e_s0
    · rename_i hc
      exact .mem (good_okName (G _ (tok_mem (by rw [hc.1]; decide))) hc.1 hc.2) hn
    · subst e_s0
      exact (no_fail h1).elim
theorem item_inv (G : ∀ t ∈ ts, Lx.Good t) {s s1 : St} {i : It} (e : item ts long s = (i, s1)) (h : s1.bad < 0) : Ok i := by
  unfold item at e
  dsimp only at e
  split at e
  · rename_i hc
    generalize htx : (tokAt ts long s.k).text = w at *
    by_cases w1 : w = [119, 105, 100, 116, 104]
    · simp only [if_pos w1] at e
      obtain ⟨⟨n, s2⟩, e_s2⟩ : ∃ x, num ts long (step ts s) = x := ⟨_, rfl⟩
      simp only [e_s2] at e
      injection e with e3 e4
      subst e3 e4
      exact .num (by decide) (by decide) (num_inv G e_s2 h).2
    by_cases w2 : w = [119, 105, 110, 100, 111, 119]
    · simp only [if_neg w1, if_pos w2] at e
      obtain ⟨⟨n, s2⟩, e_s2⟩ : ∃ x, num ts long (step ts s) = x := ⟨_, rfl⟩
      simp only [e_s2] at e
      injection e with e3 e4
      subst e3 e4
      exact .num (by decide) (by decide) (num_inv G e_s2 h).2
    by_cases w3 : w = [102, 117, 101, 108]
    · simp only [if_neg w1, if_neg w2, if_pos w3] at e
      obtain ⟨⟨n, s2⟩, e_s2⟩ : ∃ x, num ts long (step ts s) = x := ⟨_, rfl⟩
      simp only [e_s2] at e
      injection e with e3 e4
      subst e3 e4
      exact .num (by decide) (by decide) (num_inv G e_s2 h).2
    by_cases w4 : w = [112, 117, 98, 108, 105, 99]
    · simp only [if_neg w1, if_neg w2, if_neg w3, if_pos w4] at e
      exact decl_inv G e h
    by_cases w5 : w = [115, 101, 99, 114, 101, 116]
    · simp only [if_neg w1, if_neg w2, if_neg w3, if_neg w4, if_pos w5] at e
      exact decl_inv G e h
    simp only [if_neg w1, if_neg w2, if_neg w3, if_neg w4, if_neg w5] at e
    split at e
    · rename_i hw
      obtain ⟨⟨x, s2⟩, e_s2⟩ : ∃ x, ins ts long w (step ts s) = x := ⟨_, rfl⟩
      simp only [e_s2] at e
      injection e with e3 e4
      subst e3 e4
      exact .ins (ins_inv G hw hc.2 ⟨w1, w2, w3, w4, w5⟩ e_s2 h)
    · rename_i hw
      injection e with e3 e4
      subst e3
      refine .label ?_
      rw [← htx]
      exact good_okName (G _ (tok_mem (by rw [hc.1]; decide))) hc.1 (by rw [htx]; simpa using hw)
  · injection e with e3 e4
    subst e4
    exact (no_fail h).elim
end
theorem parse_ok {r : List Int} {i : It} (h : parse r = .ok i) : Ok i := by
  unfold parse at h
  split at h
  · cases h
  · rename_i ts hl
    have G := (Lx.laid_of _ 0 r ts (Nat.le_refl _) hl).good
    unfold parseT at h
    split at h
    · injection h with h
      subst h
      exact .none
    · obtain ⟨⟨j, s⟩, e⟩ : ∃ x, item ts r.length ⟨0, -1⟩ = x := ⟨_, rfl⟩
      simp only [e] at h
      obtain ⟨s', hs'⟩ : ∃ x, (if s.bad < 0 ∧ s.k < ts.length then fail (tokAt ts r.length s.k).at_ s else s) = x := ⟨_, rfl⟩
      simp only [hs'] at h
      split at h
      · cases h
      · rename_i hb
        injection h with h
        subst h
        split at hs'
        · subst hs'
          exact (hb (fail_bad _ _)).elim
        · subst hs'
          exact item_inv G e (by omega)
/-- what is printed: a line that tells the item, if there is one -/
def print (i : It) : Option (List Int) := match parse (text i) with
  | .ok j => if j = i then some (text i) else none
  | .error _ => none
theorem print_ok {i : It} (h : Ok i) : print i = some (text i) := by
  unfold print
  rw [say h]
  exact if_pos rfl
theorem print_iff (i : It) : print i = some (text i) ↔ Ok i := by
  constructor
  · intro h
    unfold print at h
    split at h
    · rename_i j h1
      split at h
      · rename_i h2
        subst h2
        exact parse_ok h1
      · cases h
    · cases h
  · exact print_ok
theorem print_none {i : It} (h : ¬ Ok i) : print i = none := by
  unfold print
  split
  · rename_i j h1
    rw [if_neg (fun h2 => h (by subst h2; exact parse_ok h1))]
  · rfl
/-- what is told is read as it was, in its one form -/
theorem back {r : List Int} {i : It} (h : parse r = .ok i) : print i = some (text i) ∧ parse (text i) = .ok i := ⟨print_ok (parse_ok h), say (parse_ok h)⟩
end Sy
end Go.Proofs.YtcpbbkpfickfiaaDoor
