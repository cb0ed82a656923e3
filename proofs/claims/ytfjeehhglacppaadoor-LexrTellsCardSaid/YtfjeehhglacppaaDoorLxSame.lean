/- The contract of augurylaw4's Same, of two rows that hold the same signs. -/
import Derived.Test.YtfjeehhglacppaaDoorLxLaw
import Derived.Deep.QuietTactic
import Derived.BigQuiet
set_option linter.unusedVariables false
set_option linter.unusedSimpArgs false
namespace Go.Proofs.YtfjeehhglacppaaDoor
open Go.RowKit
set_option maxRecDepth 100000 in
set_option maxHeartbeats 8000000 in
theorem same_any (g1 g2 : Nat) (A1 A2 : Option Addr) (c1 c2 : Nat) (ts : List Lx.Tk) (w : World) (hA1 : 0 < ts.length → A1 = some ⟨g1, 0, none⟩) (hA2 : 0 < ts.length → A2 = some ⟨g2, 0, none⟩) (hT1 : TR w g1 ts) (hT2 : TR w g2 ts) (hs : ts.length ≤ 1000000) :
    Calls Tryd.prog 12 #[.slice A1 ts.length c1, .slice A2 ts.length c2] w (RetQ (.bool true) w) := by
  have HT1 := Lib.hid hT1; have HT2 := Lib.hid hT2
  clear hT1 hT2
  go_enter Tryd.func12, Tryd.ntmps12
  go_wp2_with fail
  go_loopw [13] (fun v13 wr => ∃ (j q : Nat), v13 = .int .i64 (j : Int) ∧ j ≤ ts.length ∧ wr = w.drewN q) (fun v13 _ => ts.length - (intOf v13).toNat)
  case atStart => exact ⟨0, 0, rfl, by omega, rfl⟩
  case round =>
    obtain ⟨j, q, rfl, hj, rfl⟩ := hrel
    by_cases hjl : j < ts.length
    · have j1 : (j : Int) < (ts.length : Int) := by omega
      have j0 : (0 : Int) ≤ (j : Int) := by omega
      obtain rfl := hA1 (by omega)
      obtain rfl := hA2 (by omega)
      obtain ⟨t, ht⟩ : ∃ t, ts[j]? = some t := ⟨ts[j], by simp [hjl]⟩
      obtain ⟨_, a1, a2, a3, a4⟩ := HT1.out j t ht
      obtain ⟨_, b1, b2, b3, b4⟩ := HT2.out j t ht
      generalize strOfNums t.text = tx at *
      generalize t.kind = kd at *
      generalize t.n = nn at *
      generalize (t.at_ : Int) = pl at *
      have a1 : ∀ q, (w.drewN q).cell? ⟨g1, j * 4, none⟩ = some (.int .i64 kd) := fun q => a1
      have a2 : ∀ q, (w.drewN q).cell? ⟨g1, j * 4 + 1, none⟩ = some (.string tx) := fun q => a2
      have a3 : ∀ q, (w.drewN q).cell? ⟨g1, j * 4 + 2, none⟩ = some (.int .i64 nn) := fun q => a3
      have a4 : ∀ q, (w.drewN q).cell? ⟨g1, j * 4 + 3, none⟩ = some (.int .i64 pl) := fun q => a4
      have b1 : ∀ q, (w.drewN q).cell? ⟨g2, j * 4, none⟩ = some (.int .i64 kd) := fun q => b1
      have b2 : ∀ q, (w.drewN q).cell? ⟨g2, j * 4 + 1, none⟩ = some (.string tx) := fun q => b2
      have b3 : ∀ q, (w.drewN q).cell? ⟨g2, j * 4 + 2, none⟩ = some (.int .i64 nn) := fun q => b3
      have b4 : ∀ q, (w.drewN q).cell? ⟨g2, j * 4 + 3, none⟩ = some (.int .i64 pl) := fun q => b4
      clear hA1 hA2 ht
      go_wp2_with fail
      go_quiet (fail)
      go_wp2_with fail
      go_roundw
      case rel => exact ⟨j + 1, q + nq, by go_num, by omega, rfl⟩
      case measure => simp [intOf]; omega
    · have j1 : ¬ (j : Int) < (ts.length : Int) := by omega
      go_wp2_with fail
      go_ret
      exact ⟨rfl, q, rfl⟩
end Go.Proofs.YtfjeehhglacppaaDoor
