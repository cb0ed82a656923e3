/- The contract of code.Get, as it is reached here. -/
import Derived.Test.YtndobndaikhalaaCode2
set_option linter.unusedVariables false
set_option linter.unusedSimpArgs false
namespace Go.Proofs.Ytndobndaikhalaa
open Go.RowKit
theorem fst_some {b : List Int} {w : World} {e : Ending} {w' : World} {m : Int} {k : Nat} (h : Cd.fst1 b = some (m, k)) (hp : FstPost b w e w') : e = .returned (.tuple #[.int .i64 m, .int .i64 k, .bool true]) ∧ w = w' := by
  unfold FstPost at hp; rw [h] at hp; exact ⟨hp.2, hp.1⟩
theorem fst_none {b : List Int} {w : World} {e : Ending} {w' : World} (h : Cd.fst1 b = none) (hp : FstPost b w e w') : ∃ a c : Int, e = .returned (.tuple #[.int .i64 a, .int .i64 c, .bool false]) ∧ w = w' := by
  unfold FstPost at hp; rw [h] at hp; obtain ⟨rfl, a, c, he⟩ := hp; exact ⟨a, c, he, rfl⟩
theorem isB_drop {l : List Int} (h : Cd.isB l) (k : Nat) : Cd.isB (l.drop k) := fun x hx => h x (List.mem_of_mem_drop hx)
set_option maxHeartbeats 2000000 in
theorem Get_any (A : Option Addr) (n c : Nat) (b : List Int) (w : World) (hn : n = b.length) (hc : n ≤ c) (hc2 : c ≤ maxLen) (hx : Rd w w.heap.size A (b.map (Value.int .u8))) (hB : Cd.isB b) (hs : n ≤ 1000000) :
    Calls Try.prog 10 #[.slice A n c] w (GetPost b w) := by
  subst hn
  obtain ⟨i0, hi0, hz0, hs0, hb0⟩ := info_parts infoI
  unfold maxLen at hc2
  go_enter Try.func10, Try.ntmps10
  go_wp2
  go_loopw [0, 4] (fun u v wr => ∃ (A : Option Addr) (m c : Nat) (rest acc : List Int), u = .slice A m c ∧ m = rest.length ∧ m ≤ c ∧ c ≤ 9223372036854775807 ∧ Rd w w.heap.size A (rest.map (Value.int .u8)) ∧ Cd.isB rest ∧ m ≤ b.length ∧
      wr.ownsRow w.heap.size 3 1 v acc.length (acc.map (Value.int .i64)) ∧ acc.length + m ≤ b.length ∧ Below w.heap.size w wr ∧ Cd.getL b = (Cd.getL rest).map (acc ++ ·)) (fun u _ _ => (match u with | .slice _ m _ => m | _ => 0))
  case atStart => exact ⟨A, b.length, c, b, [], rfl, rfl, hc, by omega, hx, hB, by omega, by simpa using World.ownsRow_nil _ _ _ _, by simp, Below.refl _ _, by simp⟩
  case round =>
    obtain ⟨A2, m, c2, rest, acc, rfl, hm, hmc, hc3, hx2, hB2, hmb, hown, hacc, hbw, hg⟩ := hrel
    have HG := Lib.hid hg
    clear hg
    have hbs := hbw.size
    cases hr : rest with
    | nil =>
      subst hr
      subst hm
      go_wp2
      go_ret2
      refine GetPost.yes (l := acc) ?_ rfl hown hbw
      have := HG.out
      rw [this]; simp [Cd.getL_nil]
    | cons x r =>
      have hne : rest ≠ [] := by rw [hr]; simp
      have hpos : 0 < m := by rw [hm, hr]; simp
      clear hr
      have HM := Lib.hid hm
      clear hm
      have hxr := hx2.below hbw (Nat.le_refl _)
      cases hf : Cd.fst1 rest with
      | none =>
        have HF := Lib.hid hf
        clear hf
        go_wp2_with (go_at_call 18; refine (first_any A2 _ m c2 rest _ HM.out hmc hxr hB2 hne).mono ?_; intro e w' hp; obtain ⟨a1, c1, rfl, rfl⟩ := fst_none HF.out hp; clear hp)
        go_ret2
        refine GetPost.no ?_ rfl rfl hbw
        have := HG.out
        rw [this, Cd.getL_none hne HF.out]; rfl
      | some p =>
        obtain ⟨q, k⟩ := p
        have hk := Cd.fst1_size hf
        have HF := Lib.hid hf
        clear hf
        obtain ⟨hk1, hk2, hk3⟩ := hk
        have HK3 := Lib.hid hk3
        clear hk3
        have hk4 : k ≤ m := by rw [HM.out]; exact hk2
        have hacc2 : acc.length ≤ 1000000 := by omega
        go_wp2_with (first
          | (go_at_call 18; refine (first_any A2 _ m c2 rest _ HM.out hmc hxr hB2 hne).mono ?_; intro e w' hp; obtain ⟨rfl, rfl⟩ := fst_some HF.out hp; clear hp)
          | (at_builtin; refine wp_app1 _ rfl (.tmp 19) (.tmp 21) _ rfl w.heap.size 3 i0 _ 8 Try.underlying22 hi0 hz0 hs0 hb0 rfl _ _ _ rfl hown _ rfl rfl (by omega) (by omega) hbs ?_; intro v3 w3 hown3 hb3))
        go_round
        case rel =>
          have hm := HM.out
          refine ⟨_, m - k, c2 - k, rest.drop k, acc ++ [q], rfl, by rw [List.length_drop]; omega, by omega, by omega, ?_, isB_drop hB2 k, by omega, ?_, by simp; omega, hbw.trans hb3, Cd.getL_acc HG.out HF.out⟩
          · have := hx2.drop (k := k) (n := m) (cap := c2) (by rw [List.length_map]; exact hm) hk4 hmc
            rwa [← List.map_drop] at this
          · simpa using hown3
        case measure => simp; omega
end Go.Proofs.Ytndobndaikhalaa
