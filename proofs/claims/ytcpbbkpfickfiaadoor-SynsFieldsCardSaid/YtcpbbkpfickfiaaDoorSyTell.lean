/- What an item that a line tells is told as is read as it was. -/
import Derived.Test.YtcpbbkpfickfiaaDoorSyText
set_option linter.unusedVariables false
set_option linter.unusedSimpArgs false
namespace Go.Proofs.YtcpbbkpfickfiaaDoor
namespace Sy
open Lx (Tk)
/-- signs one behind the other, so many blanks ahead of each -/
def rend : List (Nat × Tk) → List Int
  | [] => []
  | p :: ps => List.replicate p.1 32 ++ (p.2.text ++ rend ps)
def okNext : List (Nat × Tk) → Prop
  | [] => True
  | p :: _ => 0 < p.1 ∨ p.2.kind = 3
def okS : List (Nat × Tk) → Prop
  | [] => True
  | p :: ps => (p.2.kind = 3 ∨ okNext ps) ∧ okS ps
theorem rend_stops : ∀ {ps : List (Nat × Tk)}, okNext ps → (∀ p ∈ ps, Lx.Good p.2) → Lx.stops (rend ps) = true
  | [], _, _ => rfl
  | p :: ps, h, hg => by
    rcases h with h | h
    · obtain ⟨k, hk⟩ : ∃ k, p.1 = k + 1 := ⟨p.1 - 1, by omega⟩
      rw [rend, hk, List.replicate_succ]
      rfl
    · rw [rend]
      rcases Nat.eq_zero_or_pos p.1 with h0 | h0
      · rw [h0]
        rcases hg p (by simp) with ⟨h1, _⟩ | ⟨h1, _⟩ | ⟨_, _, c, e, h1⟩
        · rw [h] at h1; cases h1
        · rw [h] at h1; cases h1
        · rw [e]
          have : c = 44 ∨ c = 58 ∨ c = 91 ∨ c = 93 ∨ c = 43 := by simpa [Lx.sgn] using h1
          rcases this with rfl | rfl | rfl | rfl | rfl <;> rfl
      · obtain ⟨k, hk⟩ : ∃ k, p.1 = k + 1 := ⟨p.1 - 1, by omega⟩
        rw [hk, List.replicate_succ]
        rfl
theorem lxA_rend : ∀ (ps : List (Nat × Tk)) (a : Nat), (∀ p ∈ ps, Lx.Good p.2) → okS ps → ∃ us, Lx.lxA a (rend ps) = .ok us ∧ Lx.SameTs (ps.map Prod.snd) us
  | [], a, _, _ => ⟨[], Lx.lxA_nil a, trivial⟩
  | p :: ps, a, hg, hs => by
    obtain ⟨us, e, h⟩ := lxA_rend ps (a + p.1 + p.2.text.length) (fun q hq => hg q (by simp [hq])) hs.2
    have hgp := hg p (by simp)
    refine ⟨⟨p.2.kind, p.2.text, p.2.n, a + p.1⟩ :: us, ?_, rfl, rfl, rfl, h⟩
    rw [rend, Lx.lxA_blanks]
    by_cases h3 : p.2.kind = 3
    · rcases hgp with ⟨h1, _⟩ | ⟨h1, _⟩ | ⟨_, hn, c, et, h1⟩
      · rw [h3] at h1; cases h1
      · rw [h3] at h1; cases h1
      · rw [et] at e ⊢
        show Lx.lxA (a + p.1) (c :: rend ps) = _
        rw [Lx.lxA_sign h1]
        have e' : Lx.lxA (a + p.1 + 1) (rend ps) = .ok us := e
        rw [e', h3, hn]
        rfl
    · have hst := rend_stops (hs.1.resolve_left h3) (fun q hq => hg q (by simp [hq]))
      rw [Lx.lxA_good hgp hst, e]
      rfl
def nT (t : List Int) : Tk := ⟨1, t, 0, 0⟩
def sT (c : Int) : Tk := ⟨3, [c], 0, 0⟩
def uT (n : Int) : Tk := ⟨2, digits n, n, 0⟩
def vK (v : Vl) : Tk := if v.reg then nT (rT v.n) else uT v.n
theorem vK_text (v : Vl) : (vK v).text = vT v := by unfold vK vT; split <;> rfl
theorem good_s {c : Int} (h : Lx.sgn c = true) : Lx.Good (sT c) := .inr (.inr ⟨rfl, rfl, c, rfl, h⟩)
theorem good_u {n : Int} (h : okN n) : Lx.Good (uT n) := by
  obtain ⟨c, r, e, h1, h2, h3⟩ := digits_form h
  exact .inr (.inl ⟨rfl, by show n = Lx.val (digits n); rw [e, h3], c, r, e, h1, by show Lx.digs (digits n) = digits n; rw [e, h2]⟩)
theorem good_r {d : Int} (h : okR d) : Lx.Good (nT (rT d)) := by
  refine .inl ⟨rfl, rfl, 114, [48 + d], (rT_of h).1, by decide, fun x hx => ?_⟩
  have hx : x ∈ rT d := hx
  rw [(rT_of h).1] at hx
  simp only [List.mem_cons, List.not_mem_nil, or_false] at hx
  obtain ⟨h0, h1⟩ := h
  rcases hx with rfl | rfl
  · decide
  · simp [Lx.word, Lx.dig]; omega
theorem good_v {v : Vl} (h : okV v) : Lx.Good (vK v) := by
  unfold vK
  rcases h with ⟨h1, h2⟩ | ⟨h1, h2⟩
  · rw [h1]; exact good_r h2
  · rw [h1]; exact good_u h2
theorem good_n {t : List Int} (h : okName t) : Lx.Good (nT t) := by
  obtain ⟨⟨c, r, e, h1, h2⟩, _⟩ := h
  exact .inl ⟨rfl, rfl, c, r, e, h1, h2⟩
theorem good_o {n : Int} (h : okO n) : Lx.Good (nT (opT n)) := by
  obtain ⟨_, _, _, c, r, e, h1, h2⟩ := opT_of h
  exact .inl ⟨rfl, rfl, c, r, e, h1, h2⟩
section
variable {ts : List Tk} {long k : Nat} {b : Int} {u : Tk}
theorem tokAt_of (h : ts[k]? = some u) : tokAt ts long k = u := by simp [tokAt, h]
theorem step_of (h : ts[k]? = some u) : step ts ⟨k, b⟩ = ⟨k + 1, b⟩ := by
  have := (List.getElem?_eq_some_iff.1 h).1
  simp [step, this]
theorem sign_ok {c : Int} (h : ts[k]? = some u) (h1 : u.kind = 3) (h2 : u.text = [c]) : sign ts long c ⟨k, b⟩ = ⟨k + 1, b⟩ := by
  simp only [sign, tokAt_of h, h1, h2, step_of h, and_self, if_true]
theorem reg_ok {d : Int} (h : ts[k]? = some u) (h1 : u.kind = 1) (h2 : u.text = rT d) (hd : okR d) : reg ts long ⟨k, b⟩ = (d, ⟨k + 1, b⟩) := by
  have e := (rT_of hd).2
  simp only [reg, tokAt_of h, h1, h2, e, step_of h, true_and]
  rw [if_pos hd.1]
theorem vl_ok {v : Vl} (h : ts[k]? = some u) (h1 : u.kind = (vK v).kind) (h2 : u.text = (vK v).text) (h3 : u.n = (vK v).n) (hv : okV v) : vl ts long ⟨k, b⟩ = (v, ⟨k + 1, b⟩) := by
  obtain ⟨r, n⟩ := v
  rcases hv with ⟨hr, hn⟩ | ⟨hr, hn⟩
  · simp only at hr hn
    subst hr
    have h1 : u.kind = 1 := h1
    have h2 : u.text = rT n := h2
    have e := (rT_of hn).2
    simp only [vl, tokAt_of h, h1, h2, e, step_of h, true_and]
    rw [if_neg (by decide), if_pos hn.1]
  · simp only at hr hn
    subst hr
    have h1 : u.kind = 2 := h1
    have h3 : u.n = n := h3
    simp only [vl, tokAt_of h, h1, h3, step_of h, if_true]
theorem num_ok {n : Int} (h : ts[k]? = some u) (h1 : u.kind = 2) (h2 : u.n = n) : num ts long ⟨k, b⟩ = (n, ⟨k + 1, b⟩) := by
  simp only [num, tokAt_of h, h1, h2, step_of h, if_true]
theorem name_ok {t : List Int} (h : ts[k]? = some u) (h1 : u.kind = 1) (h2 : u.text = t) (hw : isWord t = false) : name ts long ⟨k, b⟩ = (t, ⟨k + 1, b⟩) := by
  simp only [name, tokAt_of h, h1, h2, hw, step_of h, and_self, if_true]
end
/-- the branch of an op's own name -/
def dflt (ts : List Tk) (long : Nat) (w : List Int) (s : St) : In × St :=
  let (d, s) := reg ts long s
  let s := sign ts long 44 s
  let (a, s) := vl ts long s
  let s := sign ts long 44 s
  let (b, s) := vl ts long s
  (⟨1, opN w, d, a, b, [], 0⟩, s)
theorem ins_alu (ts : List Tk) (long : Nat) {n : Int} (h : okO n) (s : St) : ins ts long (opT n) s = dflt ts long (opT n) s := by
  obtain ⟨h0, h1⟩ := h
  rcases (by omega : n = 1 ∨ n = 2 ∨ n = 3 ∨ n = 4 ∨ n = 5 ∨ n = 6 ∨ n = 7 ∨ n = 8 ∨ n = 9 ∨ n = 10) with rfl | rfl | rfl | rfl | rfl | rfl | rfl | rfl | rfl | rfl
  all_goals
    simp only [opT, ops]
    unfold ins dflt
    simp
theorem item_ins (ts : List Tk) (long : Nat) {u : Tk} {w : List Int} (h : ts[0]? = some u) (h1 : u.kind = 1) (h2 : u.text = w) (hr : regN w < 0)
    (hw : w ≠ [119, 105, 100, 116, 104] ∧ w ≠ [119, 105, 110, 100, 111, 119] ∧ w ≠ [102, 117, 101, 108] ∧ w ≠ [112, 117, 98, 108, 105, 99] ∧ w ≠ [115, 101, 99, 114, 101, 116]) (hi : isWord w = true) :
    item ts long ⟨0, -1⟩ = (⟨7, 0, false, [], (ins ts long w ⟨1, -1⟩).1⟩, (ins ts long w ⟨1, -1⟩).2) := by
  obtain ⟨w1, w2, w3, w4, w5⟩ := hw
  unfold item
  simp only [tokAt_of h, h1, h2, hr, step_of h, and_self, if_true, if_neg w1, if_neg w2, if_neg w3, if_neg w4, if_neg w5, hi]
theorem parseT_ok {ts : List Tk} {long : Nat} {i : It} (h0 : ts ≠ []) (h : item ts long ⟨0, -1⟩ = (i, ⟨ts.length, -1⟩)) : parseT ts long = .ok i := by
  unfold parseT
  rw [if_neg h0, h]
  simp
theorem parse_of {r : List Int} {ps : List (Nat × Tk)} {i : It} (hr : r = rend ps) (hg : ∀ p ∈ ps, Lx.Good p.2) (hs : okS ps) (hne : ps ≠ [])
    (h : ∀ us : List Tk, us.length = ps.length → (∀ (j : Nat) (t : Tk), (ps.map Prod.snd)[j]? = some t → ∃ u, us[j]? = some u ∧ u.kind = t.kind ∧ u.text = t.text ∧ u.n = t.n) → item us r.length ⟨0, -1⟩ = (i, ⟨us.length, -1⟩)) : parse r = .ok i := by
  obtain ⟨us, e, hsm⟩ := lxA_rend ps 0 hg hs
  obtain ⟨hl, hn⟩ := hsm.nth
  rw [List.length_map] at hl
  unfold parse
  rw [hr, e]
  rw [← hr]
  refine parseT_ok (fun h0 => ?_) (h us hl hn)
  rw [h0] at hl
  cases ps with
  | nil => exact hne rfl
  | cons p ps => simp at hl
end Sy
end Go.Proofs.YtcpbbkpfickfiaaDoor
