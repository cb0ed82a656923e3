/- The walk of LexrForms: it answers true, whatever it is given. -/
import Derived.Test.YtfjeehhglacppaaDoorLxLaw
import Derived.Test.YtfjeehhglacppaaDoorWdMath
set_option linter.unusedVariables false
set_option linter.unusedSimpArgs false
namespace Go.Proofs.YtfjeehhglacppaaDoor
open Go.RowKit
abbrev fmRow : Array Value := #[.string ⟨#[]⟩, .int .i64 0, .bool true, .string ⟨#[32, 32, 9]⟩, .int .i64 0, .bool true, .string ⟨#[59, 32, 195, 169, 255]⟩, .int .i64 0, .bool true, .string ⟨#[97, 98, 99]⟩, .int .i64 1, .bool true, .string ⟨#[97, 49, 98, 50]⟩, .int .i64 1, .bool true, .string ⟨#[114, 48, 44, 114, 49]⟩, .int .i64 3, .bool true, .string ⟨#[91, 114, 49, 43, 50, 93]⟩, .int .i64 5, .bool true, .string ⟨#[97, 58]⟩, .int .i64 2, .bool true, .string ⟨#[48]⟩, .int .i64 1, .bool true, .string ⟨#[57, 57, 57, 57, 57]⟩, .int .i64 1, .bool true, .string ⟨#[49, 59, 50]⟩, .int .i64 1, .bool true, .string ⟨#[48, 44, 48]⟩, .int .i64 3, .bool true, .string ⟨#[65]⟩, .int .i64 0, .bool false, .string ⟨#[97, 66]⟩, .int .i64 1, .bool false, .string ⟨#[48, 48]⟩, .int .i64 1, .bool false, .string ⟨#[49, 50, 97]⟩, .int .i64 2, .bool false, .string ⟨#[49, 50, 51, 52, 53, 54]⟩, .int .i64 5, .bool false, .string ⟨#[97, 32, 195, 169]⟩, .int .i64 2, .bool false, .string ⟨#[195, 169, 97]⟩, .int .i64 0, .bool false, .string ⟨#[97, 255, 98]⟩, .int .i64 1, .bool false, .string ⟨#[97, 32, 45, 49]⟩, .int .i64 2, .bool false, .string ⟨#[120, 46, 121]⟩, .int .i64 1, .bool false, .string ⟨#[91, 91]⟩, .int .i64 2, .bool true, .string ⟨#[13]⟩, .int .i64 0, .bool false, .string ⟨#[97, 98, 0]⟩, .int .i64 2, .bool false]
theorem ok_of {R : Except Nat (List Lx.Tk)} {n : Nat} (h : (match R with | .ok l => l.length == n | .error _ => false) = true) : ∃ ts, R = .ok ts ∧ ts.length = n := by
  cases R with
  | ok l => exact ⟨l, rfl, by simpa using h⟩
  | error e => cases h
theorem fm_get (q : Nat) (h : q < 25) : ∃ (s : ByteArray) (n : Nat) (ok : Bool), fmRow[q * 3]? = some (.string s) ∧ fmRow[q * 3 + 1]? = some (.int .i64 (n : Int)) ∧ fmRow[q * 3 + 2]? = some (.bool ok) ∧ s.size ≤ 1000000 ∧
    ((ok = true ∧ ∃ ts, Lx.lxA 0 (Lx.runes s) = .ok ts ∧ ts.length = n) ∨ (ok = false ∧ Lx.lxA 0 (Lx.runes s) = .error n)) := by
  rcases (by omega : q = 0 ∨ q = 1 ∨ q = 2 ∨ q = 3 ∨ q = 4 ∨ q = 5 ∨ q = 6 ∨ q = 7 ∨ q = 8 ∨ q = 9 ∨ q = 10 ∨ q = 11 ∨ q = 12 ∨ q = 13 ∨ q = 14 ∨ q = 15 ∨ q = 16 ∨ q = 17 ∨ q = 18 ∨ q = 19 ∨ q = 20 ∨ q = 21 ∨ q = 22 ∨ q = 23 ∨ q = 24) with rfl | rfl | rfl | rfl | rfl | rfl | rfl | rfl | rfl | rfl | rfl | rfl | rfl | rfl | rfl | rfl | rfl | rfl | rfl | rfl | rfl | rfl | rfl | rfl | rfl
  · exact ⟨⟨#[]⟩, 0, true, rfl, rfl, rfl, by decide, .inl ⟨rfl, ok_of (by kernel_rfl)⟩⟩
  · exact ⟨⟨#[32, 32, 9]⟩, 0, true, rfl, rfl, rfl, by decide, .inl ⟨rfl, ok_of (by kernel_rfl)⟩⟩
  · exact ⟨⟨#[59, 32, 195, 169, 255]⟩, 0, true, rfl, rfl, rfl, by decide, .inl ⟨rfl, ok_of (by kernel_rfl)⟩⟩
  · exact ⟨⟨#[97, 98, 99]⟩, 1, true, rfl, rfl, rfl, by decide, .inl ⟨rfl, ok_of (by kernel_rfl)⟩⟩
  · exact ⟨⟨#[97, 49, 98, 50]⟩, 1, true, rfl, rfl, rfl, by decide, .inl ⟨rfl, ok_of (by kernel_rfl)⟩⟩
  · exact ⟨⟨#[114, 48, 44, 114, 49]⟩, 3, true, rfl, rfl, rfl, by decide, .inl ⟨rfl, ok_of (by kernel_rfl)⟩⟩
  · exact ⟨⟨#[91, 114, 49, 43, 50, 93]⟩, 5, true, rfl, rfl, rfl, by decide, .inl ⟨rfl, ok_of (by kernel_rfl)⟩⟩
  · exact ⟨⟨#[97, 58]⟩, 2, true, rfl, rfl, rfl, by decide, .inl ⟨rfl, ok_of (by kernel_rfl)⟩⟩
  · exact ⟨⟨#[48]⟩, 1, true, rfl, rfl, rfl, by decide, .inl ⟨rfl, ok_of (by kernel_rfl)⟩⟩
  · exact ⟨⟨#[57, 57, 57, 57, 57]⟩, 1, true, rfl, rfl, rfl, by decide, .inl ⟨rfl, ok_of (by kernel_rfl)⟩⟩
  · exact ⟨⟨#[49, 59, 50]⟩, 1, true, rfl, rfl, rfl, by decide, .inl ⟨rfl, ok_of (by kernel_rfl)⟩⟩
  · exact ⟨⟨#[48, 44, 48]⟩, 3, true, rfl, rfl, rfl, by decide, .inl ⟨rfl, ok_of (by kernel_rfl)⟩⟩
  · exact ⟨⟨#[65]⟩, 0, false, rfl, rfl, rfl, by decide, .inr ⟨rfl, by kernel_rfl⟩⟩
  · exact ⟨⟨#[97, 66]⟩, 1, false, rfl, rfl, rfl, by decide, .inr ⟨rfl, by kernel_rfl⟩⟩
  · exact ⟨⟨#[48, 48]⟩, 1, false, rfl, rfl, rfl, by decide, .inr ⟨rfl, by kernel_rfl⟩⟩
  · exact ⟨⟨#[49, 50, 97]⟩, 2, false, rfl, rfl, rfl, by decide, .inr ⟨rfl, by kernel_rfl⟩⟩
  · exact ⟨⟨#[49, 50, 51, 52, 53, 54]⟩, 5, false, rfl, rfl, rfl, by decide, .inr ⟨rfl, by kernel_rfl⟩⟩
  · exact ⟨⟨#[97, 32, 195, 169]⟩, 2, false, rfl, rfl, rfl, by decide, .inr ⟨rfl, by kernel_rfl⟩⟩
  · exact ⟨⟨#[195, 169, 97]⟩, 0, false, rfl, rfl, rfl, by decide, .inr ⟨rfl, by kernel_rfl⟩⟩
  · exact ⟨⟨#[97, 255, 98]⟩, 1, false, rfl, rfl, rfl, by decide, .inr ⟨rfl, by kernel_rfl⟩⟩
  · exact ⟨⟨#[97, 32, 45, 49]⟩, 2, false, rfl, rfl, rfl, by decide, .inr ⟨rfl, by kernel_rfl⟩⟩
  · exact ⟨⟨#[120, 46, 121]⟩, 1, false, rfl, rfl, rfl, by decide, .inr ⟨rfl, by kernel_rfl⟩⟩
  · exact ⟨⟨#[91, 91]⟩, 2, true, rfl, rfl, rfl, by decide, .inl ⟨rfl, ok_of (by kernel_rfl)⟩⟩
  · exact ⟨⟨#[13]⟩, 0, false, rfl, rfl, rfl, by decide, .inr ⟨rfl, by kernel_rfl⟩⟩
  · exact ⟨⟨#[97, 98, 0]⟩, 2, false, rfl, rfl, rfl, by decide, .inr ⟨rfl, by kernel_rfl⟩⟩
theorem fm_cell (w : World) (q : Nat) (k : Nat) (v : Value) (h : fmRow[q * 3 + k]? = some v) : (w.alloc (.cells fmRow 22)).cell? ⟨w.heap.size, q * 3 + k, none⟩ = some v := by
  have h1 := heap_alloc_new w (.cells fmRow 22)
  rw [cell_of_row _ _ _ _ _ _ h1]
  exact h
set_option maxRecDepth 100000 in
set_option maxHeartbeats 20000000 in
theorem walk_LexrForms (c0 : Int) (w : World) : Calls Tryd.prog 3 #[.int .i64 c0] w (RetB (.bool true) w) := by
  obtain ⟨q, hq, m255⟩ : ∃ q : Nat, q < 25 ∧ (bits .and .i64 c0 255) % 25 = q := ⟨(c0 % 256 % 25).toNat, by omega, by have := Wd.bits_mask c0 8 (by omega); rw [show (255 : Int) = 2 ^ 8 - 1 from rfl, this]; omega⟩
  have b0 : 0 ≤ bits .and .i64 c0 255 := by have := Wd.bits_mask c0 8 (by omega); rw [show (255 : Int) = 2 ^ 8 - 1 from rfl, this]; omega
  obtain ⟨s, n, ok, h0, h1, h2, hsz, hR⟩ := fm_get q hq
  have d0 : (w.alloc (.cells fmRow 22)).cell? ⟨w.heap.size, q * 3, none⟩ = some (.string s) := fm_cell w q 0 _ h0
  have d1 := fm_cell w q 1 _ h1
  have d2 := fm_cell w q 2 _ h2
  clear h0 h1 h2
  have HR := Lib.hid hR
  clear hR
  have hal := fun W => awake4 W
  go_enter Tryd.func3, Tryd.ntmps3
  go_wp2_with fail
  refine (line_any s _ hsz).mono ?_
  intro e w1 hl
  rcases HR.out with ⟨rfl, ts, hts, rfl⟩ | ⟨rfl, her⟩
  · rw [hts] at hl
    obtain ⟨g, A, cap, rfl, hA, hcap, hT, hb1⟩ := hl.okT
    have e0 : w1.cell? ⟨w.heap.size + 1, 0, none⟩ = some (.string s) := by
      rw [hb1.cell (p := ⟨w.heap.size + 1, 0, none⟩) (by simp), World.cell?_alloc_at _ _ _ _ (by simp)]; rfl
    have e1 : w1.cell? ⟨w.heap.size + 1, 1, none⟩ = some (.int .i64 (ts.length : Int)) := by
      rw [hb1.cell (p := ⟨w.heap.size + 1, 1, none⟩) (by simp), World.cell?_alloc_at _ _ _ _ (by simp)]; rfl
    have e2 : w1.cell? ⟨w.heap.size + 1, 2, none⟩ = some (.bool true) := by
      rw [hb1.cell (p := ⟨w.heap.size + 1, 2, none⟩) (by simp), World.cell?_alloc_at _ _ _ _ (by simp)]; rfl
    have hbb : Below w.heap.size w w1 := upT (upA (upA (up0 w) _) _) hb1
    clear d0 d1 d2 hb1 b0 m255 hl hts HR hT hA
    go_wp2_with (go_at_call 9; refine (hal _).mono ?_; rintro e w2 ⟨rfl, hb2⟩)
    go_ret
    exact ⟨rfl, upT hbb hb2⟩
  · rw [her] at hl
    obtain ⟨rfl, hb1⟩ := hl.errT
    have e0 : w1.cell? ⟨w.heap.size + 1, 0, none⟩ = some (.string s) := by
      rw [hb1.cell (p := ⟨w.heap.size + 1, 0, none⟩) (by simp), World.cell?_alloc_at _ _ _ _ (by simp)]; rfl
    have e1 : w1.cell? ⟨w.heap.size + 1, 1, none⟩ = some (.int .i64 (n : Int)) := by
      rw [hb1.cell (p := ⟨w.heap.size + 1, 1, none⟩) (by simp), World.cell?_alloc_at _ _ _ _ (by simp)]; rfl
    have e2 : w1.cell? ⟨w.heap.size + 1, 2, none⟩ = some (.bool false) := by
      rw [hb1.cell (p := ⟨w.heap.size + 1, 2, none⟩) (by simp), World.cell?_alloc_at _ _ _ _ (by simp)]; rfl
    have hbb : Below w.heap.size w w1 := upT (upA (upA (up0 w) _) _) hb1
    clear d0 d1 d2 hb1 b0 m255 hl her HR
    go_wp2_with (go_at_call 9; refine (hal _).mono ?_; rintro e w2 ⟨rfl, hb2⟩)
    go_ret
    exact ⟨rfl, upT hbb hb2⟩
end Go.Proofs.YtfjeehhglacppaaDoor
