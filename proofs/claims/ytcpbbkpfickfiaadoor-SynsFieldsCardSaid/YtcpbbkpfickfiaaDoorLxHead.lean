/- The contracts of lexr's head: how many of a string's first bytes, up to so many, are runes that belong. -/
import Derived.Test.YtcpbbkpfickfiaaDoorLxSmall
set_option linter.unusedVariables false
set_option linter.unusedSimpArgs false
namespace Go.Proofs.YtcpbbkpfickfiaaDoor
open Go.RowKit
namespace Lx
def hd (p : Int → Bool) (m : Nat) (q : List Int) : Nat := ((q.take m).takeWhile p).length
theorem takeWhile_stop {p : Int → Bool} {u : List Int} {c : Int} {r : List Int} (hu : ∀ x ∈ u, p x = true) (hc : p c = false) : (u ++ c :: r).takeWhile p = u :=
  takeWhile_app hu (fun x q e => by injection e with e1 _; rw [← e1]; exact hc)
theorem hd_full {p : Int → Bool} {u r : List Int} {m : Nat} (hu : ∀ x ∈ u, p x = true) (hm : u.length = m) : hd p m (u ++ r) = m := by
  unfold hd
  rw [List.take_append_of_le_length (by omega), List.take_of_length_le (by omega)]
  have := takeWhile_app (p := p) (a := u) (b := []) hu (fun x r e => by cases e)
  rw [List.append_nil] at this
  rw [this, hm]
theorem hd_end {p : Int → Bool} {u : List Int} {m : Nat} (hu : ∀ x ∈ u, p x = true) (hm : u.length ≤ m) : hd p m (u ++ []) = u.length := by
  unfold hd
  rw [List.append_nil, List.take_of_length_le hm]
  have := takeWhile_app (p := p) (a := u) (b := []) hu (fun x r e => by cases e)
  rw [List.append_nil] at this
  rw [this]
theorem hd_stop {p : Int → Bool} {u : List Int} {c : Int} {r : List Int} {m : Nat} (hu : ∀ x ∈ u, p x = true) (hm : u.length < m) (hc : p c = false) : hd p m (u ++ c :: r) = u.length := by
  unfold hd
  obtain ⟨k, hk⟩ : ∃ k, m - u.length = k + 1 := ⟨m - u.length - 1, by omega⟩
  rw [List.take_append, List.take_of_length_le (by omega), hk, List.take_succ_cons, takeWhile_stop hu hc]
end Lx
set_option maxRecDepth 100000 in
set_option maxHeartbeats 4000000 in
theorem head_lod (s : ByteArray) (m : Nat) (w : World) (hs : s.size ≤ 1000000) (hm : m ≤ 1000000) :
    Calls Tryd.prog 47 #[.string s, .int .i64 (m : Int), .func (.func 48) #[] #[]] w (RetB (.int .i64 (Lx.hd Lx.word m (Lx.runes s) : Int)) w) := by
  have hnx := @Lib.run_next_any_at Tryd.prog
  have hne := @Lib.run_next_end_at Tryd.prog
  have HNX := Lib.hid hnx; have HNE := Lib.hid hne
  clear hnx hne
  generalize hR : Lx.hd Lx.word m (Lx.runes s) = R
  have HR := Lib.hid hR
  clear hR
  go_enter Tryd.func47, Tryd.ntmps47
  go_wp2_with fail
  go_loopw [6] (fun v wr => ∃ (p : Nat) (u : List Int), v = .int .i64 0 ∧ wr.heap[w.heap.size]? = some (.stringIter s p) ∧ Lx.runes s = u ++ Lx.runesAt s p ∧ u.length = p ∧ (∀ x ∈ u, Lx.word x = true) ∧ p ≤ m ∧ p ≤ s.size ∧ Below w.heap.size w wr) (fun _ wr => s.size - wr.iterPos w.heap.size)
  case atStart => exact ⟨0, [], rfl, World.iter_heap w s 0, (Lx.runesAt_zero s).symm, rfl, fun x hx => by simp at hx, by omega, by omega, upA (up0 w) _⟩
  case round =>
    obtain ⟨p, u, rfl, hit, heq, hul, hall, hpm, hps, hbw⟩ := hrel
    obtain ⟨wo, rfl⟩ : ∃ wo : World, wo = wr := ⟨_, rfl⟩
    have hlt := (Array.getElem?_eq_some_iff.1 hit).1
    have hpos : wo.iterPos w.heap.size = p := by simp [World.iterPos, hit]
    by_cases hp : p < s.size
    · have hst := Lx.runesAt_step hp
      have hds := Lx.decode_step s p hp
      have hdl := decode_le s p
      have hrun := HNX.out wo w.heap.size s p
      have hit2 := Lib.iterAt_heap wo w.heap.size s p (p + (Utf8.decode s p).2) hit
      have hb2 := Lib.below_iterAt hbw (Nat.le_refl _) s (p + (Utf8.decode s p).2)
      have hsz := Lib.iterAt_size wo w.heap.size s (p + (Utf8.decode s p).2)
      have hrun' : ∀ ty, (Instr.next (.pointer (some ⟨w.heap.size, 0, none⟩)) true ty).run Tryd.prog wo = .ok (.tuple #[.bool true, .int .i64 p, .int .i32 ((Utf8.decode s p).1 : Int)]) (wo.iterAt w.heap.size s (p + (Utf8.decode s p).2)) := fun ty => hrun ty hit hp
      clear hrun
      generalize wo.iterAt w.heap.size s (p + (Utf8.decode s p).2) = w1 at *
      obtain ⟨p2, hp2⟩ : ∃ p2, p + (Utf8.decode s p).2 = p2 := ⟨_, rfl⟩
      obtain ⟨c, hc⟩ : ∃ c : Int, ((Utf8.decode s p).1 : Int) = c := ⟨_, rfl⟩
      have HP2 := Lib.hid hp2; have HCC := Lib.hid hc
      rw [hp2, hc] at hst
      rw [hp2] at hit2
      rw [hc] at hrun'
      have HH := Lib.hid hit2; have HE := Lib.hid heq; have HST := Lib.hid hst; have HB := Lib.hid hb2; have HALL := Lib.hid hall; have HUL := Lib.hid hul
      clear hit2 heq hst hb2 hit hsz hall hp2 hc hds hdl hul
      by_cases hpm2 : p = m
      · subst hpm2
        have hres : R = p := by rw [← HR.out, HE.out]; exact Lx.hd_full HALL.out HUL.out
        have HRES := Lib.hid hres
        clear hres
        go_wp2_with fail
        go_ret
        exact ⟨by rw [HRES.out]; rfl, HB.out⟩
      · have k1 : ((p : Int) == (m : Int)) = false := by simp; omega
        have k2 : ¬ (p : Int) = (m : Int) := by omega
        cases hx : Lx.word c
        · have hres : R = p := by rw [← HR.out, HE.out, HST.out, Lx.hd_stop HALL.out (by rw [HUL.out]; omega) hx, HUL.out]
          have HRES := Lib.hid hres
          clear hres
          go_wp2_with (go_at_call 48; refine (lod_any _ _).mono ?_; rintro e w' ⟨rfl, rfl⟩; rw [hx])
          go_ret
          exact ⟨by rw [HRES.out]; rfl, HB.out⟩
        · go_wp2_with (go_at_call 48; refine (lod_any _ _).mono ?_; rintro e w' ⟨rfl, rfl⟩; rw [hx])
          go_round
          case measure =>
            have e1 : w1.iterPos w.heap.size = p2 := by simp [World.iterPos, HH.out]
            have := Lx.decode_step s p hp
            have := HP2.out
            rw [e1, hpos]
            omega
          case rel =>
            have hcl := (Lx.word_lt hx).2
            obtain ⟨hp', hxx, hb', hr', hd'⟩ := Lx.ascii_at HST.out hcl
            have hp2' : p2 = p + 1 := by rw [← HP2.out, hd']
            have hlen : (u ++ [c]).length = p2 := by rw [List.length_append, HUL.out, hp2']; rfl
            refine ⟨p2, u ++ [c], rfl, HH.out, ?_, hlen, ?_, by omega, by omega, HB.out⟩
            · rw [HE.out, HST.out]; simp
            · intro x hx2
              rcases List.mem_append.1 hx2 with h | h
              · exact HALL.out x h
              · simp at h; subst h; exact hx
    · have hend := Lx.runesAt_end hp
      rw [hend] at heq
      have hres : R = s.size := by rw [← HR.out, heq, Lx.hd_end hall (by omega)]; omega
      have HRES := Lib.hid hres
      clear hres
      have hrun : ∀ ty, (Instr.next (.pointer (some ⟨w.heap.size, 0, none⟩)) true ty).run Tryd.prog wo = .ok (.tuple #[.bool false]) wo := fun ty => HNE.out wo w.heap.size s p ty hit hp
      clear hit heq hall
      go_wp2_with fail
      go_ret
      exact ⟨by rw [HRES.out]; rfl, hbw⟩
set_option maxRecDepth 100000 in
set_option maxHeartbeats 4000000 in
theorem head_dig (s : ByteArray) (m : Nat) (w : World) (hs : s.size ≤ 1000000) (hm : m ≤ 1000000) :
    Calls Tryd.prog 47 #[.string s, .int .i64 (m : Int), .func (.func 49) #[] #[]] w (RetB (.int .i64 (Lx.hd Lx.dig m (Lx.runes s) : Int)) w) := by
  have hnx := @Lib.run_next_any_at Tryd.prog
  have hne := @Lib.run_next_end_at Tryd.prog
  have HNX := Lib.hid hnx; have HNE := Lib.hid hne
  clear hnx hne
  generalize hR : Lx.hd Lx.dig m (Lx.runes s) = R
  have HR := Lib.hid hR
  clear hR
  go_enter Tryd.func47, Tryd.ntmps47
  go_wp2_with fail
  go_loopw [6] (fun v wr => ∃ (p : Nat) (u : List Int), v = .int .i64 0 ∧ wr.heap[w.heap.size]? = some (.stringIter s p) ∧ Lx.runes s = u ++ Lx.runesAt s p ∧ u.length = p ∧ (∀ x ∈ u, Lx.dig x = true) ∧ p ≤ m ∧ p ≤ s.size ∧ Below w.heap.size w wr) (fun _ wr => s.size - wr.iterPos w.heap.size)
  case atStart => exact ⟨0, [], rfl, World.iter_heap w s 0, (Lx.runesAt_zero s).symm, rfl, fun x hx => by simp at hx, by omega, by omega, upA (up0 w) _⟩
  case round =>
    obtain ⟨p, u, rfl, hit, heq, hul, hall, hpm, hps, hbw⟩ := hrel
    obtain ⟨wo, rfl⟩ : ∃ wo : World, wo = wr := ⟨_, rfl⟩
    have hlt := (Array.getElem?_eq_some_iff.1 hit).1
    have hpos : wo.iterPos w.heap.size = p := by simp [World.iterPos, hit]
    by_cases hp : p < s.size
    · have hst := Lx.runesAt_step hp
      have hds := Lx.decode_step s p hp
      have hdl := decode_le s p
      have hrun := HNX.out wo w.heap.size s p
      have hit2 := Lib.iterAt_heap wo w.heap.size s p (p + (Utf8.decode s p).2) hit
      have hb2 := Lib.below_iterAt hbw (Nat.le_refl _) s (p + (Utf8.decode s p).2)
      have hsz := Lib.iterAt_size wo w.heap.size s (p + (Utf8.decode s p).2)
      have hrun' : ∀ ty, (Instr.next (.pointer (some ⟨w.heap.size, 0, none⟩)) true ty).run Tryd.prog wo = .ok (.tuple #[.bool true, .int .i64 p, .int .i32 ((Utf8.decode s p).1 : Int)]) (wo.iterAt w.heap.size s (p + (Utf8.decode s p).2)) := fun ty => hrun ty hit hp
      clear hrun
      generalize wo.iterAt w.heap.size s (p + (Utf8.decode s p).2) = w1 at *
      obtain ⟨p2, hp2⟩ : ∃ p2, p + (Utf8.decode s p).2 = p2 := ⟨_, rfl⟩
      obtain ⟨c, hc⟩ : ∃ c : Int, ((Utf8.decode s p).1 : Int) = c := ⟨_, rfl⟩
      have HP2 := Lib.hid hp2; have HCC := Lib.hid hc
      rw [hp2, hc] at hst
      rw [hp2] at hit2
      rw [hc] at hrun'
      have HH := Lib.hid hit2; have HE := Lib.hid heq; have HST := Lib.hid hst; have HB := Lib.hid hb2; have HALL := Lib.hid hall; have HUL := Lib.hid hul
      clear hit2 heq hst hb2 hit hsz hall hp2 hc hds hdl hul
      by_cases hpm2 : p = m
      · subst hpm2
        have hres : R = p := by rw [← HR.out, HE.out]; exact Lx.hd_full HALL.out HUL.out
        have HRES := Lib.hid hres
        clear hres
        go_wp2_with fail
        go_ret
        exact ⟨by rw [HRES.out]; rfl, HB.out⟩
      · have k1 : ((p : Int) == (m : Int)) = false := by simp; omega
        have k2 : ¬ (p : Int) = (m : Int) := by omega
        cases hx : Lx.dig c
        · have hres : R = p := by rw [← HR.out, HE.out, HST.out, Lx.hd_stop HALL.out (by rw [HUL.out]; omega) hx, HUL.out]
          have HRES := Lib.hid hres
          clear hres
          go_wp2_with (go_at_call 49; refine (digit_any _ _).mono ?_; rintro e w' ⟨rfl, rfl⟩; rw [hx])
          go_ret
          exact ⟨by rw [HRES.out]; rfl, HB.out⟩
        · go_wp2_with (go_at_call 49; refine (digit_any _ _).mono ?_; rintro e w' ⟨rfl, rfl⟩; rw [hx])
          go_round
          case measure =>
            have e1 : w1.iterPos w.heap.size = p2 := by simp [World.iterPos, HH.out]
            have := Lx.decode_step s p hp
            have := HP2.out
            rw [e1, hpos]
            omega
          case rel =>
            have hcl := (Lx.dig_lt hx).2
            obtain ⟨hp', hxx, hb', hr', hd'⟩ := Lx.ascii_at HST.out hcl
            have hp2' : p2 = p + 1 := by rw [← HP2.out, hd']
            have hlen : (u ++ [c]).length = p2 := by rw [List.length_append, HUL.out, hp2']; rfl
            refine ⟨p2, u ++ [c], rfl, HH.out, ?_, hlen, ?_, by omega, by omega, HB.out⟩
            · rw [HE.out, HST.out]; simp
            · intro x hx2
              rcases List.mem_append.1 hx2 with h | h
              · exact HALL.out x h
              · simp at h; subst h; exact hx
    · have hend := Lx.runesAt_end hp
      rw [hend] at heq
      have hres : R = s.size := by rw [← HR.out, heq, Lx.hd_end hall (by omega)]; omega
      have HRES := Lib.hid hres
      clear hres
      have hrun : ∀ ty, (Instr.next (.pointer (some ⟨w.heap.size, 0, none⟩)) true ty).run Tryd.prog wo = .ok (.tuple #[.bool false]) wo := fun ty => HNE.out wo w.heap.size s p ty hit hp
      clear hit heq hall
      go_wp2_with fail
      go_ret
      exact ⟨by rw [HRES.out]; rfl, hbw⟩
end Go.Proofs.YtcpbbkpfickfiaaDoor
