/- The contract of auguryref4.Signs: a string's runes. -/
import Derived.Test.YtcpbbkpfickfiaaDoorLxRunes
set_option linter.unusedVariables false
set_option linter.unusedSimpArgs false
namespace Go.Proofs.YtcpbbkpfickfiaaDoor
open Go.RowKit
set_option maxRecDepth 100000 in
set_option maxHeartbeats 2000000 in
theorem rsigns_any (s : ByteArray) (w : World) (hs : s.size ≤ 1000000) :
    Calls Tryd.prog 24 #[.string s] w (RetOwn w.heap.size 21 ((Lx.runes s).map (Value.int .i32)) w) := by
  obtain ⟨i0, hi0, hz0, hs0, hb0⟩ := info_parts infoR
  have hnx := @Lib.run_next_any_at Tryd.prog
  have hne := @Lib.run_next_end_at Tryd.prog
  have hrl := Lx.runes_len s
  have HNX := Lib.hid hnx; have HNE := Lib.hid hne
  clear hnx hne
  go_enter Tryd.func24, Tryd.ntmps24
  go_wp2_with fail
  go_loopw [3] (fun v wr => ∃ (p : Nat) (done : List Int), wr.heap[w.heap.size]? = some (.stringIter s p) ∧ wr.ownsRow (w.heap.size + 1) 21 1 v done.length (done.map (Value.int .i32)) ∧ done ++ Lx.runesAt s p = Lx.runes s ∧ Below w.heap.size w wr) (fun _ wr => s.size - wr.iterPos w.heap.size)
  case atStart => exact ⟨0, [], World.iter_heap w s 0, World.ownsRow_nil _ _ _ _, Lx.runesAt_zero s, upA (up0 w) _⟩
  case round =>
    obtain ⟨p, done, hit, hown, heq, hbw⟩ := hrel
    obtain ⟨wo, rfl⟩ : ∃ wo : World, wo = wr := ⟨_, rfl⟩
    have hlt := (Array.getElem?_eq_some_iff.1 hit).1
    have hpos : wo.iterPos w.heap.size = p := by simp [World.iterPos, hit]
    by_cases hp : p < s.size
    · have hst := Lx.runesAt_step hp
      have hds := Lx.decode_step s p hp
      have hdl := decode_le s p
      have hlen : done.length + 1 ≤ 1000000 := by
        have := congrArg List.length heq
        rw [hst] at this
        simp at this
        omega
      have hrun := HNX.out wo w.heap.size s p
      have hit2 := Lib.iterAt_heap wo w.heap.size s p (p + (Utf8.decode s p).2) hit
      have hown2 := own_iterAt (s := s) (p := p + (Utf8.decode s p).2) hown (Nat.lt_succ_self _)
      have hb2 := Lib.below_iterAt hbw (Nat.le_refl _) s (p + (Utf8.decode s p).2)
      have hsz := Lib.iterAt_size wo w.heap.size s (p + (Utf8.decode s p).2)
      have hrun' : ∀ ty, (Instr.next (.pointer (some ⟨w.heap.size, 0, none⟩)) true ty).run Tryd.prog wo = .ok (.tuple #[.bool true, .int .i64 p, .int .i32 ((Utf8.decode s p).1 : Int)]) (wo.iterAt w.heap.size s (p + (Utf8.decode s p).2)) := fun ty => hrun ty hit hp
      clear hrun
      generalize wo.iterAt w.heap.size s (p + (Utf8.decode s p).2) = w1 at *
      generalize hp2 : p + (Utf8.decode s p).2 = p2 at *
      generalize (Utf8.decode s p).1 = rn at *
      have hsz1 : w.heap.size + 1 ≤ w1.heap.size := by omega
      have HH := Lib.hid hit2; have HE := Lib.hid heq; have HST := Lib.hid hst; have HB := Lib.hid hb2
      clear hit2 heq hst hb2 hown hit hsz
      go_wp2_with (at_builtin; refine wp_app1 _ rfl (.tmp 11) (.tmp 13) _ rfl (w.heap.size + 1) 21 i0 _ 4 Tryd.underlying64 hi0 hz0 hs0 hb0 rfl _ _ _ (by rfl) hown2 (.int .i32 (rn : Int)) rfl rfl (by omega) (by omega) (by omega) ?_; intro v2 w2 hown3 hb3)
      go_round
      case measure =>
        have e1 : w2.iterPos w.heap.size = p2 := by
          have := hb3.block w.heap.size (by omega)
          rw [HH.out] at this
          simp [World.iterPos, this]
        rw [e1, hpos]
        omega
      case rel =>
        refine ⟨p2, done ++ [(rn : Int)], (hb3.block w.heap.size (by omega)).trans HH.out, by simpa using hown3, by rw [← HE.out, HST.out]; simp, HB.out.trans (hb3.mono (Nat.le_succ _))⟩
    · have hend := Lx.runesAt_end hp
      rw [hend, List.append_nil] at heq
      have hrun : ∀ ty, (Instr.next (.pointer (some ⟨w.heap.size, 0, none⟩)) true ty).run Tryd.prog wo = .ok (.tuple #[.bool false]) wo := fun ty => HNE.out wo w.heap.size s p ty hit hp
      have HO := Lib.hid hown
      clear hown hit
      go_wp2_with fail
      go_ret
      refine ⟨_, rfl, ?_, hbw⟩
      rw [← heq, List.length_map]
      exact own_more HO.out (Nat.le_succ _)
end Go.Proofs.YtcpbbkpfickfiaaDoor
