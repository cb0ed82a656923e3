/- The sixteen programs of ProgNone, and what is known of them. -/
import Derived.Test.YtmghklokbmdenaaDoorPgSelf
set_option linter.unusedVariables false
set_option linter.unusedSimpArgs false
namespace Go.Proofs.YtmghklokbmdenaaDoor
open Go.RowKit
namespace Pg
def i64B (n : Int) : Bool := decide (-9223372036854775808 ≤ n) && decide (n ≤ 9223372036854775807)
def bB (l : List Int) : Bool := l.all fun b => decide (0 ≤ b) && decide (b < 256)
def okPB (p : Pr) : Bool := (i64B p.w && i64B p.win && i64B p.fuel) && decide (p.regs.length = 4) && p.regs.all i64B && p.mems.all (fun m => i64B m.n && bB m.name) && p.labels.all (fun l => i64B l.at_ && bB l.name) &&
  p.ins.all (fun i => (i64B i.kind && i64B i.op && i64B i.d && i64B i.a.n && i64B i.b.n && i64B i.target) && bB i.name) && (decide (p.mems.length ≤ 1000) && decide (p.labels.length ≤ 1000000) && decide (p.ins.length ≤ 1000))
def itB (i : Sy.It) : Bool := (i64B i.n && i64B i.ins.op && i64B i.ins.d && i64B i.ins.a.n && i64B i.ins.b.n) && (decide (i.name.length ≤ 50000) && decide (i.ins.name.length ≤ 50000)) && (bB i.name && bB i.ins.name)
def fitB (p : Pr) : Bool := okPB p && decide (0 < (bodyG p.labels p.labels 0 p.ins).length) && decide ((bodyG p.labels p.labels 0 p.ins).length ≤ 2000000) && (itemsG p).all itB && decide ((itemsG p).length ≤ 3000000) &&
  (match sayG p with | none => true | some t => decide (t.length ≤ 1000000))
theorem i64B_iff {n : Int} (h : i64B n = true) : I64 n := by
  simp only [i64B, Bool.and_eq_true, decide_eq_true_eq] at h; exact h
theorem bB_iff {l : List Int} (h : bB l = true) : ∀ c ∈ l, 0 ≤ c ∧ c < 256 := fun c hc => by
  have := List.all_eq_true.1 h c hc
  simpa only [Bool.and_eq_true, decide_eq_true_eq] using this
theorem okPB_iff {p : Pr} (h : okPB p = true) : PrOk p := by
  simp only [okPB, Bool.and_eq_true, decide_eq_true_eq, List.all_eq_true] at h
  obtain ⟨⟨⟨⟨⟨⟨⟨⟨h1, h2⟩, h3⟩, h4⟩, h5⟩, h6⟩, h7⟩, h8⟩, ⟨h9, h10⟩, h11⟩ := h
  exact ⟨⟨i64B_iff h1, i64B_iff h2, i64B_iff h3⟩, h4, fun r hr => i64B_iff (h5 r hr), fun m hm => ⟨i64B_iff (h6 m hm).1, bB_iff (h6 m hm).2⟩, fun l hl => ⟨i64B_iff (h7 l hl).1, bB_iff (h7 l hl).2⟩,
    fun i hi => by
      obtain ⟨⟨⟨⟨⟨⟨a1, a2⟩, a3⟩, a4⟩, a5⟩, a6⟩, a7⟩ := h8 i hi
      exact ⟨⟨i64B_iff a1, i64B_iff a2, i64B_iff a3, i64B_iff a4, i64B_iff a5, i64B_iff a6⟩, bB_iff a7⟩, h9, h10, h11⟩
end Pg
theorem fit_of {p : Pg.Pr} (h : Pg.fitB p = true) : Fit p := by
  simp only [Pg.fitB, Bool.and_eq_true, decide_eq_true_eq, List.all_eq_true] at h
  obtain ⟨⟨⟨⟨⟨h1, h2⟩, h3⟩, h4⟩, h5⟩, h6⟩ := h
  refine ⟨Pg.okPB_iff h1, h2, h3, fun i hi => ?_, h5, fun t ht => ?_⟩
  · have h := h4 i hi
    simp only [Pg.itB, Bool.and_eq_true, decide_eq_true_eq] at h
    obtain ⟨⟨⟨⟨⟨⟨a1, a2⟩, a3⟩, a4⟩, a5⟩, a6, a7⟩, a8, a9⟩ := h
    exact ⟨⟨Pg.i64B_iff a1, Pg.i64B_iff a2, Pg.i64B_iff a3, Pg.i64B_iff a4, Pg.i64B_iff a5⟩, ⟨a6, a7⟩, ⟨Pg.bB_iff a8, Pg.bB_iff a9⟩⟩
  · rw [ht] at h6
    simpa using h6
theorem printG_back {p : Pg.Pr} {t : List Int} (h : Pg.printG p = some t) : Pg.parse (Pg.bytes t) = .ok p ∧ Pg.sayG p = some t := by
  unfold Pg.printG at h
  cases hs : Pg.sayG p with
  | none => rw [hs] at h; cases h
  | some u =>
    rw [hs] at h
    simp only at h
    cases hp : Pg.parse (Pg.bytes u) with
    | error e => rw [hp] at h; cases h
    | ok q =>
      rw [hp] at h
      simp only at h
      by_cases hq : q = p
      · rw [if_pos hq] at h
        obtain rfl := Option.some.inj h
        exact ⟨by rw [hp, hq], rfl⟩
      · rw [if_neg hq] at h; cases h
def pnP : Nat → Pg.Pr
  | 0 => ⟨2, 2, 5, [1, 2, 0, 0], [⟨[109], false, 2⟩], [⟨[97], 0⟩, ⟨[98], 1⟩], [⟨6, 0, 0, ⟨false, 0⟩, ⟨false, 0⟩, [], 1⟩, ⟨11, 0, 0, ⟨false, 0⟩, ⟨false, 0⟩, [], 0⟩]⟩
  | 1 => ⟨0, 2, 5, [1, 2, 0, 0], [⟨[109], false, 2⟩], [⟨[97], 0⟩, ⟨[98], 1⟩], [⟨6, 0, 0, ⟨false, 0⟩, ⟨false, 0⟩, [], 1⟩, ⟨11, 0, 0, ⟨false, 0⟩, ⟨false, 0⟩, [], 0⟩]⟩
  | 2 => ⟨2, 7, 5, [1, 2, 0, 0], [⟨[109], false, 2⟩], [⟨[97], 0⟩, ⟨[98], 1⟩], [⟨6, 0, 0, ⟨false, 0⟩, ⟨false, 0⟩, [], 1⟩, ⟨11, 0, 0, ⟨false, 0⟩, ⟨false, 0⟩, [], 0⟩]⟩
  | 3 => ⟨2, 2, 0, [1, 2, 0, 0], [⟨[109], false, 2⟩], [⟨[97], 0⟩, ⟨[98], 1⟩], [⟨6, 0, 0, ⟨false, 0⟩, ⟨false, 0⟩, [], 1⟩, ⟨11, 0, 0, ⟨false, 0⟩, ⟨false, 0⟩, [], 0⟩]⟩
  | 4 => ⟨2, 2, 5, [1, 2, 3, 0], [⟨[109], false, 2⟩], [⟨[97], 0⟩, ⟨[98], 1⟩], [⟨6, 0, 0, ⟨false, 0⟩, ⟨false, 0⟩, [], 1⟩, ⟨11, 0, 0, ⟨false, 0⟩, ⟨false, 0⟩, [], 0⟩]⟩
  | 5 => ⟨2, 2, 5, [1, 2, 0, 0], [⟨[109], false, 5⟩], [⟨[97], 0⟩, ⟨[98], 1⟩], [⟨6, 0, 0, ⟨false, 0⟩, ⟨false, 0⟩, [], 1⟩, ⟨11, 0, 0, ⟨false, 0⟩, ⟨false, 0⟩, [], 0⟩]⟩
  | 6 => ⟨2, 2, 5, [1, 2, 0, 0], [⟨[97], false, 1⟩], [⟨[97], 0⟩, ⟨[98], 1⟩], [⟨6, 0, 0, ⟨false, 0⟩, ⟨false, 0⟩, [], 1⟩, ⟨11, 0, 0, ⟨false, 0⟩, ⟨false, 0⟩, [], 0⟩]⟩
  | 7 => ⟨2, 2, 5, [1, 2, 0, 0], [⟨[109], false, 2⟩], [⟨[97], 0⟩], [⟨6, 0, 0, ⟨false, 0⟩, ⟨false, 0⟩, [], 1⟩, ⟨11, 0, 0, ⟨false, 0⟩, ⟨false, 0⟩, [], 0⟩]⟩
  | 8 => ⟨2, 2, 5, [1, 2, 0, 0], [⟨[109], false, 2⟩], [⟨[98], 1⟩, ⟨[97], 0⟩], [⟨6, 0, 0, ⟨false, 0⟩, ⟨false, 0⟩, [], 1⟩, ⟨11, 0, 0, ⟨false, 0⟩, ⟨false, 0⟩, [], 0⟩]⟩
  | 9 => ⟨2, 2, 5, [1, 2, 0, 0], [⟨[109], false, 2⟩], [⟨[97], 0⟩, ⟨[98], 1⟩, ⟨[99], 3⟩], [⟨6, 0, 0, ⟨false, 0⟩, ⟨false, 0⟩, [], 1⟩, ⟨11, 0, 0, ⟨false, 0⟩, ⟨false, 0⟩, [], 0⟩]⟩
  | 10 => ⟨2, 2, 5, [1, 2, 0, 0], [⟨[109], false, 2⟩], [⟨[97], 0⟩, ⟨[98], 1⟩, ⟨[99], 2⟩], [⟨6, 0, 0, ⟨false, 0⟩, ⟨false, 0⟩, [], 1⟩, ⟨11, 0, 0, ⟨false, 0⟩, ⟨false, 0⟩, [], 0⟩]⟩
  | 11 => ⟨2, 2, 5, [1, 2, 0, 0], [⟨[109], false, 2⟩], [⟨[97], 0⟩, ⟨[98], 1⟩], []⟩
  | 12 => ⟨2, 2, 5, [1, 2, 0, 0], [⟨[109], false, 2⟩], [⟨[97], 0⟩, ⟨[98], 1⟩], [⟨6, 0, 0, ⟨false, 0⟩, ⟨false, 0⟩, [98], 1⟩, ⟨11, 0, 0, ⟨false, 0⟩, ⟨false, 0⟩, [], 0⟩]⟩
  | 13 => ⟨2, 2, 5, [1, 2, 0, 0], [⟨[109], false, 2⟩], [⟨[97], 0⟩, ⟨[98], 1⟩], [⟨11, 0, 0, ⟨false, 0⟩, ⟨false, 0⟩, [], 0⟩, ⟨11, 0, 0, ⟨false, 0⟩, ⟨false, 0⟩, [], 1⟩]⟩
  | 14 => ⟨2, 2, 5, [1, 2, -1, 0], [⟨[109], false, 2⟩], [⟨[97], 0⟩, ⟨[98], 1⟩], [⟨6, 0, 0, ⟨false, 0⟩, ⟨false, 0⟩, [], 1⟩, ⟨11, 0, 0, ⟨false, 0⟩, ⟨false, 0⟩, [], 0⟩]⟩
  | _ => ⟨2, 2, 5, [1, 2, 0, 0], [⟨[109], false, 2⟩], [⟨[97], 1⟩, ⟨[98], 1⟩], [⟨6, 0, 0, ⟨false, 0⟩, ⟨false, 0⟩, [], 1⟩, ⟨11, 0, 0, ⟨false, 0⟩, ⟨false, 0⟩, [], 0⟩]⟩
def pnB (k : Nat) : Bool := k == 0 || k == 10 || k == 15
set_option maxRecDepth 100000 in
theorem pn_all : ((List.range 16).all fun k => Pg.fitB (pnP k) && ((Pg.printG (pnP k)).isSome == pnB k)) = true := by kernel_rfl
theorem pn_facts {k : Nat} (hk : k < 16) : Fit (pnP k) ∧ (Pg.printG (pnP k)).isSome = pnB k := by
  have h := List.all_eq_true.1 pn_all k (List.mem_range.2 hk)
  simp only [Bool.and_eq_true, beq_iff_eq] at h
  exact ⟨fit_of h.1, h.2⟩
theorem pn_cases {k : Nat} (hk : k < 16) : Fit (pnP k) ∧ ((pnB k = true ∧ ∃ t, Pg.printG (pnP k) = some t ∧ Pg.parse (Pg.bytes t) = .ok (pnP k) ∧ t.length ≤ 1000000) ∨ (pnB k = false ∧ Pg.printG (pnP k) = none)) := by
  obtain ⟨h1, h2⟩ := pn_facts hk
  refine ⟨h1, ?_⟩
  cases hp : Pg.printG (pnP k) with
  | none => rw [hp] at h2; exact .inr ⟨h2.symm, rfl⟩
  | some t =>
    rw [hp] at h2
    obtain ⟨h3, h4⟩ := printG_back hp
    exact .inl ⟨h2.symm, t, rfl, h3, h1.short t h4⟩
end Go.Proofs.YtmghklokbmdenaaDoor
