/- The contract of augurylaw4's Text: some string, not long. -/
import Derived.Test.YtcpbbkpfickfiaaDoorMem2
import Derived.Test.YtcpbbkpfickfiaaDoorRetW
import Derived.Test.YtcpbbkpfickfiaaDoorWdMath
set_option linter.unusedVariables false
set_option linter.unusedSimpArgs false
namespace Go.Proofs.YtcpbbkpfickfiaaDoor
open Go.RowKit
abbrev txRow : Array Value := #[.string ⟨#[119, 105, 100, 116, 104]⟩, .string ⟨#[119, 105, 110, 100, 111, 119]⟩, .string ⟨#[102, 117, 101, 108]⟩, .string ⟨#[112, 117, 98, 108, 105, 99]⟩, .string ⟨#[115, 101, 99, 114, 101, 116]⟩, .string ⟨#[97, 100, 100]⟩, .string ⟨#[120, 111, 114]⟩, .string ⟨#[108, 116]⟩, .string ⟨#[109, 111, 118]⟩, .string ⟨#[108, 111, 97, 100]⟩, .string ⟨#[115, 116, 111, 114, 101]⟩, .string ⟨#[99, 109, 111, 118]⟩, .string ⟨#[98, 114]⟩, .string ⟨#[106, 109, 112]⟩, .string ⟨#[99, 97, 108, 108]⟩, .string ⟨#[105, 110, 100]⟩, .string ⟨#[114, 101, 116]⟩, .string ⟨#[102, 101, 110, 99, 101]⟩, .string ⟨#[104, 97, 108, 116]⟩, .string ⟨#[114, 48]⟩, .string ⟨#[114, 49]⟩, .string ⟨#[114, 50]⟩, .string ⟨#[114, 51]⟩, .string ⟨#[114, 52]⟩, .string ⟨#[97]⟩, .string ⟨#[108, 97, 98, 49]⟩, .string ⟨#[48]⟩, .string ⟨#[49]⟩, .string ⟨#[50]⟩, .string ⟨#[48, 55]⟩, .string ⟨#[49, 50]⟩, .string ⟨#[57, 57, 57, 57, 57]⟩, .string ⟨#[49, 50, 51, 52, 53, 54]⟩, .string ⟨#[44]⟩, .string ⟨#[58]⟩, .string ⟨#[91]⟩, .string ⟨#[93]⟩, .string ⟨#[43]⟩, .string ⟨#[59]⟩, .string ⟨#[32]⟩, .string ⟨#[32, 32]⟩, .string ⟨#[9]⟩, .string ⟨#[195, 169]⟩, .string ⟨#[255]⟩, .string ⟨#[65]⟩, .string ⟨#[45]⟩, .string ⟨#[49, 97]⟩]
theorem tx_get (q : Nat) (h : q < 47) : ∃ s, txRow[q]? = some (.string s) ∧ s.size ≤ 6 := by
  rcases (by omega : q = 0 ∨ q = 1 ∨ q = 2 ∨ q = 3 ∨ q = 4 ∨ q = 5 ∨ q = 6 ∨ q = 7 ∨ q = 8 ∨ q = 9 ∨ q = 10 ∨ q = 11 ∨ q = 12 ∨ q = 13 ∨ q = 14 ∨ q = 15 ∨ q = 16 ∨ q = 17 ∨ q = 18 ∨ q = 19 ∨ q = 20 ∨ q = 21 ∨ q = 22 ∨ q = 23 ∨ q = 24 ∨ q = 25 ∨ q = 26 ∨ q = 27 ∨ q = 28 ∨ q = 29 ∨ q = 30 ∨ q = 31 ∨ q = 32 ∨ q = 33 ∨ q = 34 ∨ q = 35 ∨ q = 36 ∨ q = 37 ∨ q = 38 ∨ q = 39 ∨ q = 40 ∨ q = 41 ∨ q = 42 ∨ q = 43 ∨ q = 44 ∨ q = 45 ∨ q = 46) with rfl | rfl | rfl | rfl | rfl | rfl | rfl | rfl | rfl | rfl | rfl | rfl | rfl | rfl | rfl | rfl | rfl | rfl | rfl | rfl | rfl | rfl | rfl | rfl | rfl | rfl | rfl | rfl | rfl | rfl | rfl | rfl | rfl | rfl | rfl | rfl | rfl | rfl | rfl | rfl | rfl | rfl | rfl | rfl | rfl | rfl | rfl
  all_goals exact ⟨_, rfl, by decide⟩
theorem tx_cell {W : World} {b : Nat} (hb : W.heap[b]? = some (.cells txRow 9 (0, 0))) (q : Nat) (h : q < 47) : ∃ s : ByteArray, W.cell? ⟨b, q, none⟩ = some (.string s) ∧ s.size ≤ 6 := by
  obtain ⟨s, h1, h2⟩ := tx_get q h
  exact ⟨s, by rw [cell_of_row _ _ _ _ _ _ hb]; exact h1, h2⟩
set_option maxRecDepth 100000 in
set_option maxHeartbeats 20000000 in
theorem text_any (A : Option Addr) (n c : Nat) (z : List Int) (w : World) (hn : n = z.length) (hr : Rd w w.heap.size A (z.map (Value.int .i64))) :
    Calls Tryd.prog 13 #[.slice A n c] w fun e w' => ∃ s : ByteArray, e = .returned (.string s) ∧ s.size ≤ 140 ∧ Below w.heap.size w w' := by
  subst hn
  have HR := Lib.hid hr
  clear hr
  go_enter Tryd.func13, Tryd.ntmps13
  go_wp2_with fail
  have hb := heap_alloc_new w (.cells txRow 9)
  have hbw := upA (up0 w) (.cells txRow 9)
  generalize w.alloc (.cells txRow 9) = W at *
  have HB := Lib.hid hb
  clear hb
  go_loop [4, 5] (fun v4 v5 => ∃ (i : Nat) (s : ByteArray), v5 = .int .i64 (i : Int) ∧ v4 = .string s ∧ i ≤ 20 ∧ s.size ≤ 7 * i) (fun _ v5 => 20 - (intOf v5).toNat)
  case atStart => exact ⟨0, ⟨#[]⟩, rfl, rfl, by omega, by decide⟩
  case round =>
    obtain ⟨i, s, rfl, rfl, hi, hs⟩ := hrel
    by_cases h1 : i < z.length
    · have i1 : (i : Int) < (z.length : Int) := by omega
      by_cases h2 : i < 20
      · have i2 : (i : Int) < 20 := by omega
        have i0 : (0 : Int) ≤ (i : Int) := by omega
        obtain ⟨ad, rfl, hba, hca⟩ := HR.out.at_ h1
        have hcx : W.cell? (ad.add i) = some (.int .i64 (z.getD i 0)) := (hbw.cell (by rw [adr_block]; exact hba)).trans hca
        generalize z.getD i 0 = x at *
        obtain ⟨q, hq, m255⟩ : ∃ q : Nat, q < 47 ∧ (bits .and .i64 x 255) % 47 = q := ⟨(x % 256 % 47).toNat, by omega, by have := Wd.bits_mask x 8 (by omega); rw [show (255 : Int) = 2 ^ 8 - 1 from rfl, this]; omega⟩
        have b0 : 0 ≤ bits .and .i64 x 255 := by have := Wd.bits_mask x 8 (by omega); rw [show (255 : Int) = 2 ^ 8 - 1 from rfl, this]; omega
        obtain ⟨p, hp1, hp2⟩ := tx_cell HB.out q hq
        clear hca
        go_wp2_with fail
        all_goals
          refine ⟨⟨i + 1, _, by go_num, rfl, by omega, ?_⟩, by simp [intOf]; omega⟩
          have e32 : (⟨#[32]⟩ : ByteArray).size = 1 := rfl
          simp only [ByteArray.size_append]
          omega
      · have i2 : ¬ (i : Int) < 20 := by omega
        go_wp2_with fail
        go_ret
        exact ⟨s, rfl, by omega, hbw⟩
    · have i1 : ¬ (i : Int) < (z.length : Int) := by omega
      go_wp2_with fail
      go_ret
      exact ⟨s, rfl, by omega, hbw⟩
end Go.Proofs.YtcpbbkpfickfiaaDoor
