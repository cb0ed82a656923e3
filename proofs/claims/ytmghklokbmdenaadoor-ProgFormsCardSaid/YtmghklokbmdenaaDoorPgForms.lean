/- The walk of ProgForms: it answers true, whatever it is given. -/
import Derived.Test.YtmghklokbmdenaaDoorMgPp
import Derived.Test.YtmghklokbmdenaaDoorWdMath
set_option linter.unusedVariables false
set_option linter.unusedSimpArgs false
namespace Go.Proofs.YtmghklokbmdenaaDoor
open Go.RowKit
abbrev pfRow : Array Value := #[.string ⟨#[119, 105, 100, 116, 104, 32, 50, 10, 104, 97, 108, 116]⟩, .int .i64 (-1), .string ⟨#[]⟩, .int .i64 0, .string ⟨#[10, 10]⟩, .int .i64 2, .string ⟨#[104, 97, 108, 116, 10]⟩, .int .i64 1, .string ⟨#[119, 105, 100, 116, 104, 32, 50, 10]⟩, .int .i64 1, .string ⟨#[119, 105, 100, 116, 104, 32, 49, 55, 10, 104, 97, 108, 116]⟩, .int .i64 0, .string ⟨#[119, 105, 100, 116, 104, 32, 48, 10, 104, 97, 108, 116]⟩, .int .i64 0, .string ⟨#[119, 105, 100, 116, 104, 32, 50, 10, 119, 105, 100, 116, 104, 32, 50, 10, 104, 97, 108, 116]⟩, .int .i64 1, .string ⟨#[119, 105, 110, 100, 111, 119, 32, 55, 10, 119, 105, 100, 116, 104, 32, 50, 10, 104, 97, 108, 116]⟩, .int .i64 0, .string ⟨#[119, 105, 110, 100, 111, 119, 32, 54, 10, 119, 105, 100, 116, 104, 32, 50, 10, 104, 97, 108, 116]⟩, .int .i64 (-1), .string ⟨#[102, 117, 101, 108, 32, 49, 48, 48, 49, 10, 119, 105, 100, 116, 104, 32, 50, 10, 104, 97, 108, 116]⟩, .int .i64 0, .string ⟨#[102, 117, 101, 108, 32, 48, 10, 119, 105, 100, 116, 104, 32, 50, 10, 104, 97, 108, 116]⟩, .int .i64 0, .string ⟨#[119, 105, 100, 116, 104, 32, 50, 10, 104, 97, 108, 116, 10, 119, 105, 110, 100, 111, 119, 32, 50]⟩, .int .i64 2, .string ⟨#[119, 105, 100, 116, 104, 32, 50, 10, 97, 58, 10, 112, 117, 98, 108, 105, 99, 32, 114, 48, 10, 104, 97, 108, 116]⟩, .int .i64 2, .string ⟨#[112, 117, 98, 108, 105, 99, 32, 109, 32, 50, 10, 119, 105, 100, 116, 104, 32, 50, 10, 104, 97, 108, 116]⟩, .int .i64 0, .string ⟨#[119, 105, 100, 116, 104, 32, 50, 10, 112, 117, 98, 108, 105, 99, 32, 109, 32, 53, 10, 104, 97, 108, 116]⟩, .int .i64 1, .string ⟨#[119, 105, 100, 116, 104, 32, 50, 10, 112, 117, 98, 108, 105, 99, 32, 109, 32, 52, 10, 104, 97, 108, 116]⟩, .int .i64 (-1), .string ⟨#[119, 105, 100, 116, 104, 32, 50, 10, 112, 117, 98, 108, 105, 99, 32, 109, 32, 50, 10, 115, 101, 99, 114, 101, 116, 32, 115, 32, 51, 10, 104, 97, 108, 116]⟩, .int .i64 2, .string ⟨#[119, 105, 100, 116, 104, 32, 57, 10, 112, 117, 98, 108, 105, 99, 32, 109, 32, 49, 55, 10, 104, 97, 108, 116]⟩, .int .i64 1, .string ⟨#[119, 105, 100, 116, 104, 32, 57, 10, 112, 117, 98, 108, 105, 99, 32, 109, 32, 56, 10, 115, 101, 99, 114, 101, 116, 32, 115, 32, 57, 10, 104, 97, 108, 116]⟩, .int .i64 2, .string ⟨#[119, 105, 100, 116, 104, 32, 50, 10, 112, 117, 98, 108, 105, 99, 32, 109, 32, 48, 10, 104, 97, 108, 116]⟩, .int .i64 1, .string ⟨#[119, 105, 100, 116, 104, 32, 50, 10, 112, 117, 98, 108, 105, 99, 32, 109, 32, 49, 10, 115, 101, 99, 114, 101, 116, 32, 109, 32, 49, 10, 104, 97, 108, 116]⟩, .int .i64 2, .string ⟨#[119, 105, 100, 116, 104, 32, 50, 10, 112, 117, 98, 108, 105, 99, 32, 114, 48, 10, 115, 101, 99, 114, 101, 116, 32, 114, 48, 10, 104, 97, 108, 116]⟩, .int .i64 2, .string ⟨#[119, 105, 100, 116, 104, 32, 50, 10, 97, 58, 10, 97, 58, 10, 104, 97, 108, 116]⟩, .int .i64 2, .string ⟨#[119, 105, 100, 116, 104, 32, 50, 10, 112, 117, 98, 108, 105, 99, 32, 97, 32, 49, 10, 97, 58, 10, 104, 97, 108, 116]⟩, .int .i64 2, .string ⟨#[119, 105, 100, 116, 104, 32, 50, 10, 106, 109, 112, 32, 97, 10, 104, 97, 108, 116]⟩, .int .i64 1, .string ⟨#[119, 105, 100, 116, 104, 32, 50, 10, 104, 97, 108, 116, 10, 106, 109, 112, 32, 97, 10, 97, 58]⟩, .int .i64 (-1), .string ⟨#[119, 105, 100, 116, 104, 32, 50, 10, 104, 97, 108, 116, 10, 104, 97, 108, 116, 32, 195, 169, 10, 106, 109, 112, 32, 97]⟩, .int .i64 2, .string ⟨#[119, 105, 100, 116, 104, 32, 50, 10, 115, 101, 99, 114, 101, 116, 32, 114, 49, 10, 112, 117, 98, 108, 105, 99, 32, 114, 48, 10, 104, 97, 108, 116]⟩, .int .i64 (-1)]
theorem pf_ok {d : List UInt8} (h : (match Pg.parse d with | .ok q => Pg.shortB q && decide (q.labels.length ≤ 1000000) && decide ((Pg.text q).length ≤ 1000000) | .error _ => false) = true) : ∃ q, Pg.parse d = .ok q ∧ Fit q ∧ 1 ≤ q.w ∧ (Pg.printG q).isSome = true := by
  cases hp : Pg.parse d with
  | error e => rw [hp] at h; cases h
  | ok q =>
    rw [hp] at h
    simp only [Bool.and_eq_true, decide_eq_true_eq] at h
    have hw := Pg.parse_wf hp
    exact ⟨q, rfl, wf_fit hw h.1.1 h.1.2 h.2, hw.w.1, by rw [print_is, Pg.print_wf textOk hw]; rfl⟩
theorem pf_err {d : List UInt8} {a : Nat} (h : (match Pg.parse d with | .ok q => false | .error (m, c) => (m == a) && (c == 0 || c == 5)) = true) : ∃ (m c : Nat), (a : Int) = (m : Int) ∧ (c = 0 ∨ c = 5) ∧ Pg.parse d = .error (m, c) := by
  cases hp : Pg.parse d with
  | ok q => rw [hp] at h; cases h
  | error e =>
    obtain ⟨m, c⟩ := e
    rw [hp] at h
    simp only [Bool.and_eq_true, Bool.or_eq_true, beq_iff_eq] at h
    exact ⟨m, c, by rw [h.1], h.2, rfl⟩
set_option maxRecDepth 100000 in
theorem pf_get (q : Nat) (h : q < 29) : ∃ (d : List UInt8) (at_ : Int), pfRow[q * 2]? = some (bstr d) ∧ pfRow[q * 2 + 1]? = some (.int .i64 at_) ∧ d.length ≤ 1000000 ∧
    ((at_ = -1 ∧ ∃ q, Pg.parse d = .ok q ∧ Fit q ∧ 1 ≤ q.w ∧ (Pg.printG q).isSome = true) ∨ (∃ (m c : Nat), at_ = (m : Int) ∧ (c = 0 ∨ c = 5) ∧ Pg.parse d = .error (m, c))) := by
  rcases (by omega : q = 0 ∨ q = 1 ∨ q = 2 ∨ q = 3 ∨ q = 4 ∨ q = 5 ∨ q = 6 ∨ q = 7 ∨ q = 8 ∨ q = 9 ∨ q = 10 ∨ q = 11 ∨ q = 12 ∨ q = 13 ∨ q = 14 ∨ q = 15 ∨ q = 16 ∨ q = 17 ∨ q = 18 ∨ q = 19 ∨ q = 20 ∨ q = 21 ∨ q = 22 ∨ q = 23 ∨ q = 24 ∨ q = 25 ∨ q = 26 ∨ q = 27 ∨ q = 28) with rfl | rfl | rfl | rfl | rfl | rfl | rfl | rfl | rfl | rfl | rfl | rfl | rfl | rfl | rfl | rfl | rfl | rfl | rfl | rfl | rfl | rfl | rfl | rfl | rfl | rfl | rfl | rfl | rfl
  · exact ⟨[119, 105, 100, 116, 104, 32, 50, 10, 104, 97, 108, 116], -1, rfl, rfl, by decide, .inl ⟨rfl, pf_ok (by kernel_rfl)⟩⟩
  · exact ⟨[], 0, rfl, rfl, by decide, .inr (pf_err (by kernel_rfl))⟩
  · exact ⟨[10, 10], 2, rfl, rfl, by decide, .inr (pf_err (by kernel_rfl))⟩
  · exact ⟨[104, 97, 108, 116, 10], 1, rfl, rfl, by decide, .inr (pf_err (by kernel_rfl))⟩
  · exact ⟨[119, 105, 100, 116, 104, 32, 50, 10], 1, rfl, rfl, by decide, .inr (pf_err (by kernel_rfl))⟩
  · exact ⟨[119, 105, 100, 116, 104, 32, 49, 55, 10, 104, 97, 108, 116], 0, rfl, rfl, by decide, .inr (pf_err (by kernel_rfl))⟩
  · exact ⟨[119, 105, 100, 116, 104, 32, 48, 10, 104, 97, 108, 116], 0, rfl, rfl, by decide, .inr (pf_err (by kernel_rfl))⟩
  · exact ⟨[119, 105, 100, 116, 104, 32, 50, 10, 119, 105, 100, 116, 104, 32, 50, 10, 104, 97, 108, 116], 1, rfl, rfl, by decide, .inr (pf_err (by kernel_rfl))⟩
  · exact ⟨[119, 105, 110, 100, 111, 119, 32, 55, 10, 119, 105, 100, 116, 104, 32, 50, 10, 104, 97, 108, 116], 0, rfl, rfl, by decide, .inr (pf_err (by kernel_rfl))⟩
  · exact ⟨[119, 105, 110, 100, 111, 119, 32, 54, 10, 119, 105, 100, 116, 104, 32, 50, 10, 104, 97, 108, 116], -1, rfl, rfl, by decide, .inl ⟨rfl, pf_ok (by kernel_rfl)⟩⟩
  · exact ⟨[102, 117, 101, 108, 32, 49, 48, 48, 49, 10, 119, 105, 100, 116, 104, 32, 50, 10, 104, 97, 108, 116], 0, rfl, rfl, by decide, .inr (pf_err (by kernel_rfl))⟩
  · exact ⟨[102, 117, 101, 108, 32, 48, 10, 119, 105, 100, 116, 104, 32, 50, 10, 104, 97, 108, 116], 0, rfl, rfl, by decide, .inr (pf_err (by kernel_rfl))⟩
  · exact ⟨[119, 105, 100, 116, 104, 32, 50, 10, 104, 97, 108, 116, 10, 119, 105, 110, 100, 111, 119, 32, 50], 2, rfl, rfl, by decide, .inr (pf_err (by kernel_rfl))⟩
  · exact ⟨[119, 105, 100, 116, 104, 32, 50, 10, 97, 58, 10, 112, 117, 98, 108, 105, 99, 32, 114, 48, 10, 104, 97, 108, 116], 2, rfl, rfl, by decide, .inr (pf_err (by kernel_rfl))⟩
  · exact ⟨[112, 117, 98, 108, 105, 99, 32, 109, 32, 50, 10, 119, 105, 100, 116, 104, 32, 50, 10, 104, 97, 108, 116], 0, rfl, rfl, by decide, .inr (pf_err (by kernel_rfl))⟩
  · exact ⟨[119, 105, 100, 116, 104, 32, 50, 10, 112, 117, 98, 108, 105, 99, 32, 109, 32, 53, 10, 104, 97, 108, 116], 1, rfl, rfl, by decide, .inr (pf_err (by kernel_rfl))⟩
  · exact ⟨[119, 105, 100, 116, 104, 32, 50, 10, 112, 117, 98, 108, 105, 99, 32, 109, 32, 52, 10, 104, 97, 108, 116], -1, rfl, rfl, by decide, .inl ⟨rfl, pf_ok (by kernel_rfl)⟩⟩
  · exact ⟨[119, 105, 100, 116, 104, 32, 50, 10, 112, 117, 98, 108, 105, 99, 32, 109, 32, 50, 10, 115, 101, 99, 114, 101, 116, 32, 115, 32, 51, 10, 104, 97, 108, 116], 2, rfl, rfl, by decide, .inr (pf_err (by kernel_rfl))⟩
  · exact ⟨[119, 105, 100, 116, 104, 32, 57, 10, 112, 117, 98, 108, 105, 99, 32, 109, 32, 49, 55, 10, 104, 97, 108, 116], 1, rfl, rfl, by decide, .inr (pf_err (by kernel_rfl))⟩
  · exact ⟨[119, 105, 100, 116, 104, 32, 57, 10, 112, 117, 98, 108, 105, 99, 32, 109, 32, 56, 10, 115, 101, 99, 114, 101, 116, 32, 115, 32, 57, 10, 104, 97, 108, 116], 2, rfl, rfl, by decide, .inr (pf_err (by kernel_rfl))⟩
  · exact ⟨[119, 105, 100, 116, 104, 32, 50, 10, 112, 117, 98, 108, 105, 99, 32, 109, 32, 48, 10, 104, 97, 108, 116], 1, rfl, rfl, by decide, .inr (pf_err (by kernel_rfl))⟩
  · exact ⟨[119, 105, 100, 116, 104, 32, 50, 10, 112, 117, 98, 108, 105, 99, 32, 109, 32, 49, 10, 115, 101, 99, 114, 101, 116, 32, 109, 32, 49, 10, 104, 97, 108, 116], 2, rfl, rfl, by decide, .inr (pf_err (by kernel_rfl))⟩
  · exact ⟨[119, 105, 100, 116, 104, 32, 50, 10, 112, 117, 98, 108, 105, 99, 32, 114, 48, 10, 115, 101, 99, 114, 101, 116, 32, 114, 48, 10, 104, 97, 108, 116], 2, rfl, rfl, by decide, .inr (pf_err (by kernel_rfl))⟩
  · exact ⟨[119, 105, 100, 116, 104, 32, 50, 10, 97, 58, 10, 97, 58, 10, 104, 97, 108, 116], 2, rfl, rfl, by decide, .inr (pf_err (by kernel_rfl))⟩
  · exact ⟨[119, 105, 100, 116, 104, 32, 50, 10, 112, 117, 98, 108, 105, 99, 32, 97, 32, 49, 10, 97, 58, 10, 104, 97, 108, 116], 2, rfl, rfl, by decide, .inr (pf_err (by kernel_rfl))⟩
  · exact ⟨[119, 105, 100, 116, 104, 32, 50, 10, 106, 109, 112, 32, 97, 10, 104, 97, 108, 116], 1, rfl, rfl, by decide, .inr (pf_err (by kernel_rfl))⟩
  · exact ⟨[119, 105, 100, 116, 104, 32, 50, 10, 104, 97, 108, 116, 10, 106, 109, 112, 32, 97, 10, 97, 58], -1, rfl, rfl, by decide, .inl ⟨rfl, pf_ok (by kernel_rfl)⟩⟩
  · exact ⟨[119, 105, 100, 116, 104, 32, 50, 10, 104, 97, 108, 116, 10, 104, 97, 108, 116, 32, 195, 169, 10, 106, 109, 112, 32, 97], 2, rfl, rfl, by decide, .inr (pf_err (by kernel_rfl))⟩
  · exact ⟨[119, 105, 100, 116, 104, 32, 50, 10, 115, 101, 99, 114, 101, 116, 32, 114, 49, 10, 112, 117, 98, 108, 105, 99, 32, 114, 48, 10, 104, 97, 108, 116], -1, rfl, rfl, by decide, .inl ⟨rfl, pf_ok (by kernel_rfl)⟩⟩
theorem pf_cell (w : World) (q : Nat) (k : Nat) (v : Value) (h : pfRow[q * 2 + k]? = some v) : (w.alloc (.cells pfRow 22)).cell? ⟨w.heap.size, q * 2 + k, none⟩ = some v := by
  have h1 := heap_alloc_new w (.cells pfRow 22)
  rw [cell_of_row _ _ _ _ _ _ h1]
  exact h
set_option maxRecDepth 100000 in
set_option maxHeartbeats 20000000 in
theorem walk_ProgForms (c0 : Int) (w : World) (T : Sn.Tab w) : Calls Tryd.prog 3 #[.int .i64 c0] w (RetB (.bool true) w) := by
  obtain ⟨q, hq, m255⟩ : ∃ q : Nat, q < 29 ∧ (bits .and .i64 c0 255) % 29 = q := ⟨(c0 % 256 % 29).toNat, by omega, by have := Wd.bits_mask c0 8 (by omega); rw [show (255 : Int) = 2 ^ 8 - 1 from rfl, this]; omega⟩
  have b0 : 0 ≤ bits .and .i64 c0 255 := by have := Wd.bits_mask c0 8 (by omega); rw [show (255 : Int) = 2 ^ 8 - 1 from rfl, this]; omega
  obtain ⟨d, at_, h0, h1, hsz, hR⟩ := pf_get q hq
  have d0 : (w.alloc (.cells pfRow 22)).cell? ⟨w.heap.size, q * 2, none⟩ = some (bstr d) := pf_cell w q 0 _ h0
  have d1 := pf_cell w q 1 _ h1
  clear h0 h1
  have hpar := fun W (h : Below w.heap.size w W) => parse_prog d hsz W (T.below h)
  have hal := fun W (h : Below w.heap.size w W) => awake6 W (T.below h)
  have hok := fun q vM vL vI W (h : Below w.heap.size w W) (hi : PrIn W q vM vL vI) (hf : Fit q) => pok_any q vM vL vI W (T.below h) hi hf
  have HR := Lib.hid hR; have HT := Lib.hid T; have HSZ := Lib.hid hsz; have HPAR := Lib.hid hpar; have HAL := Lib.hid hal; have HOK := Lib.hid hok
  clear hR T hsz hpar hal hok
  go_enter Tryd.func3, Tryd.ntmps3
  go_wp2_with fail
  rcases HR.out with ⟨rfl, r, hpq, hfit, hw1, hsome⟩ | ⟨m, c, rfl, hc, hpq⟩
  · have hpar := HPAR.out
    rw [hpq] at hpar
    refine (hpar _ (upA (upA (up0 w) _) _)).mono ?_
    rintro e w1 ⟨hb1, qM, qL, qI, rfl, hrows⟩
    have hin := hrows.inp
    obtain ⟨AM, cM, rfl, _⟩ := id hin.rM
    obtain ⟨AL, cL, rfl, _⟩ := id hin.rL
    obtain ⟨AI, cI, rfl, _⟩ := id hin.rI
    have hgt : (0 : Int) < r.w := by omega
    have hok := fun vM vL vI W h1 h2 => (HOK.out r vM vL vI W h1 h2 hfit)
    rw [hsome] at hok
    have HOK2 := Lib.hid hok; have HIN := Lib.hid hin
    clear hpar hpq hrows hin hok hfit hsome hw1 HOK HPAR HSZ
    have e1 : ∀ o, (w1.alloc o).cell? ⟨w.heap.size + 1, 1, none⟩ = some (.int .i64 (-1)) := fun o => (World.cell?_alloc_lt _ _ _ (by have := hb1.size; simp at this; show w.heap.size + 1 < w1.heap.size; omega)).trans (by
      rw [hb1.cell (p := ⟨w.heap.size + 1, 1, none⟩) (by simp), World.cell?_alloc_at _ _ _ _ (by simp)]; rfl)
    have HB := Lib.hid (upT (upA (upA (up0 w) _) _) hb1)
    clear d0 d1 hb1 b0 m255 HR
    go_wp2_with first
      | (go_at_call 8; refine (HOK2.out _ _ _ _ (upA HB.out _) (HIN.out.up (upA (up0 w1) _))).mono ?_; rintro e w2 ⟨rfl, hb2⟩; have HB2 := Lib.hid (upT (upA HB.out _) hb2))
      | (go_at_call 7; refine (HAL.out _ HB2.out).mono ?_; rintro e w3 ⟨rfl, hb3⟩)
    go_ret
    exact ⟨rfl, upT HB2.out hb3⟩
  · have hpar := HPAR.out
    rw [hpq] at hpar
    refine (hpar _ (upA (upA (up0 w) _) _)).mono ?_
    rintro e w1 ⟨hb1, rfl⟩
    have m0 : ¬ (m : Int) < 0 := by omega
    clear hpar hpq HOK HPAR HSZ
    have e1 : ∀ o, (w1.alloc o).cell? ⟨w.heap.size + 1, 1, none⟩ = some (.int .i64 (m : Int)) := fun o => (World.cell?_alloc_lt _ _ _ (by have := hb1.size; simp at this; show w.heap.size + 1 < w1.heap.size; omega)).trans (by
      rw [hb1.cell (p := ⟨w.heap.size + 1, 1, none⟩) (by simp), World.cell?_alloc_at _ _ _ _ (by simp)]; rfl)
    have HB := Lib.hid (upT (upA (upA (up0 w) _) _) hb1)
    clear d0 d1 hb1 b0 m255 HR
    rcases hc with rfl | rfl
    · go_wp2_with (go_at_call 7; refine (HAL.out _ (upA HB.out _)).mono ?_; rintro e w3 ⟨rfl, hb3⟩)
      go_ret
      exact ⟨rfl, upT (upA HB.out _) hb3⟩
    · go_wp2_with (go_at_call 7; refine (HAL.out _ (upA HB.out _)).mono ?_; rintro e w3 ⟨rfl, hb3⟩)
      go_ret
      exact ⟨rfl, upT (upA HB.out _) hb3⟩
end Go.Proofs.YtmghklokbmdenaaDoor
