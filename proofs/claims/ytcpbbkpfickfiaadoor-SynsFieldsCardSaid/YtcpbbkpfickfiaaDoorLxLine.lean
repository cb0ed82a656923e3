/- The contract of lexr's Line. -/
import Derived.Test.YtcpbbkpfickfiaaDoorLxLn
import Derived.Deep.RegionHeld3
set_option linter.unusedVariables false
set_option linter.unusedSimpArgs false
namespace Go.Proofs.YtcpbbkpfickfiaaDoor
open Go.RowKit
/-- where a line's reading stands -/
def lnAt (s : ByteArray) (R : Except Nat (List Lx.Tk)) (p e : Nat) (ts : List Lx.Tk) (lk : Int) : Prop :=
  (p < e ∧ e ≤ s.size ∧ (∃ u, Lx.runesAt s p = u ++ Lx.runesAt s e ∧ u.length = e - p ∧ (∀ x ∈ u, 0 ≤ x ∧ x < 128)) ∧ Lx.glue ts (Lx.nx lk e (Lx.runesAt s e)) = R) ∨
  (p = e ∧ Lx.glue ts (Lx.nx lk e (Lx.runesAt s e)) = R) ∨ (e < p ∧ Lx.glue ts (Lx.lxA p (Lx.runesAt s p)) = R)
theorem lnAt.free {s : ByteArray} {R : Except Nat (List Lx.Tk)} {p e : Nat} {ts : List Lx.Tk} {lk : Int} (h : lnAt s R p e ts lk) (hpe : e ≤ p) :
    ∀ c r, Lx.runesAt s p = c :: r → (p = e ∧ lk = 2 ∧ Lx.word c = true ∧ R = .error e) ∨ (¬ (p = e ∧ lk = 2 ∧ Lx.word c = true) ∧ Lx.glue ts (Lx.lxA p (c :: r)) = R) := by
  intro c r hr
  rcases h with ⟨h1, _⟩ | ⟨rfl, h1⟩ | ⟨h0, h1⟩
  · omega
  · rw [hr] at h1
    by_cases hk : lk = 2
    · subst hk
      cases hw : Lx.word c
      · right
        rw [Lx.nx_stop (by simp [Lx.stops, hw])] at h1
        exact ⟨by simp, h1⟩
      · left
        rw [Lx.nx_cut (by simp [Lx.stops, hw])] at h1
        exact ⟨rfl, rfl, rfl, h1.symm⟩
    · right
      rw [Lx.nx_other hk] at h1
      exact ⟨by simp [hk], h1⟩
  · right
    rw [hr] at h1
    exact ⟨by omega, h1⟩
theorem lnAt.end_ {s : ByteArray} {R : Except Nat (List Lx.Tk)} {p e : Nat} {ts : List Lx.Tk} {lk : Int} (h : lnAt s R p e ts lk) (hp : ¬ p < s.size) (hps : p ≤ s.size) : R = .ok ts := by
  rcases h with ⟨h1, h2, _⟩ | ⟨rfl, h1⟩ | ⟨h0, h1⟩
  · omega
  · rw [Lx.runesAt_end hp, Lx.nx_stop rfl, Lx.lxA_nil] at h1
    rw [← h1]; simp [Lx.glue]
  · rw [Lx.runesAt_end hp, Lx.lxA_nil] at h1
    rw [← h1]; simp [Lx.glue]
set_option maxRecDepth 100000 in
set_option maxHeartbeats 16000000 in
theorem line_any (s : ByteArray) (w : World) (hs : s.size ≤ 1000000) :
    Calls Tryd.prog 17 #[.string s] w (LineR (Lx.lxA 0 (Lx.runes s)) w) := by
  obtain ⟨i0, hi0, hz0, hs0, hb0⟩ := info_parts infoTk
  have hnx := @Lib.run_next_any_at Tryd.prog
  have hne := @Lib.run_next_end_at Tryd.prog
  have HNX := Lib.hid hnx; have HNE := Lib.hid hne
  clear hnx hne
  have hstart : lnAt s (Lx.lxA 0 (Lx.runes s)) 0 0 [] 0 := .inr (.inl ⟨rfl, by rw [Lx.glue_nil, Lx.nx_other (by decide), Lx.runesAt_zero]⟩)
  generalize hR : Lx.lxA 0 (Lx.runes s) = R at *
  clear hR
  have HSTART := Lib.hid hstart
  clear hstart
  go_enter Tryd.func17, Tryd.ntmps17
  go_wp2_with fail
  go_loopw [5, 7] (fun v5 v7 wr => ∃ (p e : Nat) (ts : List Lx.Tk) (lk : Int) (lt : ByteArray) (ln la : Int), v7 = .int .i64 (e : Int) ∧
    wr.heap[w.heap.size]? = some (.cells #[.int .i64 lk, .string lt, .int .i64 ln, .int .i64 la] 58 (0, 0)) ∧ wr.heap[w.heap.size + 1]? = some (.stringIter s p) ∧
    wr.ownsRow (w.heap.size + 2) 58 4 v5 ts.length (flat ts) ∧ Below w.heap.size w wr ∧ p ≤ s.size ∧ (ts.length ≤ e ∧ e ≤ s.size) ∧ lnAt s R p e ts lk) (fun _ _ wr => s.size - wr.iterPos (w.heap.size + 1))
  case atStart => exact ⟨0, 0, [], 0, ⟨#[]⟩, 0, 0, rfl, heap_alloc2_old _ _ _, heap_alloc2_new _ _ _, World.ownsRow_nil _ _ _ _, upA (upA (up0 w) _) _, by omega, by simp, HSTART.out⟩
  case round =>
    obtain ⟨p, e, ts, lk, lt, ln, la, rfl, hlast, hit, hown, hbw, hps, ⟨htl, hes⟩, hat⟩ := hrel
    obtain ⟨wo, rfl⟩ : ∃ wo : World, wo = wr := ⟨_, rfl⟩
    have hlt := (Array.getElem?_eq_some_iff.1 hit).1
    have hpos : wo.iterPos (w.heap.size + 1) = p := by simp [World.iterPos, hit]
    by_cases hp : p < s.size
    · have hst := Lx.runesAt_step hp
      have hrun := HNX.out wo (w.heap.size + 1) s p
      have hit2 := Lib.iterAt_heap wo (w.heap.size + 1) s p (p + (Utf8.decode s p).2) hit
      have hb2 := Lib.below_iterAt hbw (Nat.le_succ _) s (p + (Utf8.decode s p).2)
      have hsz := Lib.iterAt_size wo (w.heap.size + 1) s (p + (Utf8.decode s p).2)
      have hown1 := own_keepb hown (w' := wo.iterAt (w.heap.size + 1) s (p + (Utf8.decode s p).2)) (fun k hk => Lib.iterAt_other wo (w.heap.size + 1) k s _ (by omega))
      have hlast1 := (Lib.iterAt_other wo (w.heap.size + 1) w.heap.size s (p + (Utf8.decode s p).2) (by omega)).trans hlast
      have hrun' : ∀ ty, (Instr.next (.pointer (some ⟨w.heap.size + 1, 0, none⟩)) true ty).run Tryd.prog wo = .ok (.tuple #[.bool true, .int .i64 p, .int .i32 ((Utf8.decode s p).1 : Int)]) (wo.iterAt (w.heap.size + 1) s (p + (Utf8.decode s p).2)) := fun ty => hrun ty hit hp
      clear hrun hown hlast hbw hit
      generalize wo.iterAt (w.heap.size + 1) s (p + (Utf8.decode s p).2) = w1 at *
      obtain ⟨p2, hp2⟩ : ∃ p2, p + (Utf8.decode s p).2 = p2 := ⟨_, rfl⟩
      obtain ⟨c, hc⟩ : ∃ c : Int, ((Utf8.decode s p).1 : Int) = c := ⟨_, rfl⟩
      have HP2 := Lib.hid hp2
      have hst' := hst
      rw [hp2, hc] at hst
      rw [hp2] at hit2
      rw [hc] at hrun'
      clear hst' hp2 hc
      have hw1 : w.heap.size + 2 ≤ w1.heap.size := by omega
      have HI := Lib.hid hit2; have HL := Lib.hid hlast1; have HB := Lib.hid hb2; have HO := Lib.hid hown1; have HST := Lib.hid hst; have HAT := Lib.hid hat
      clear hit2 hlast1 hb2 hown1 hst hat hsz
      have hp1 : c < 128 → p2 = p + 1 := fun h => by
        obtain ⟨_, _, _, _, hd⟩ := Lx.ascii_at HST.out h
        rw [← HP2.out, hd]
      have HP1 := Lib.hid hp1
      clear hp1
      have hskip : ∀ e' ts' lk', p2 ≤ s.size → lnAt s R p2 e' ts' lk' → e' = e → ts' = ts → lk' = lk → ∃ (p e : Nat) (ts : List Lx.Tk) (lk : Int) (lt : ByteArray) (ln la : Int), (Value.int .i64 (e' : Int)) = .int .i64 (e : Int) ∧
    w1.heap[w.heap.size]? = some (.cells #[.int .i64 lk, .string lt, .int .i64 ln, .int .i64 la] 58 (0, 0)) ∧ w1.heap[w.heap.size + 1]? = some (.stringIter s p) ∧
    w1.ownsRow (w.heap.size + 2) 58 4 u5 ts.length (flat ts) ∧ Below w.heap.size w w1 ∧ p ≤ s.size ∧ (ts.length ≤ e ∧ e ≤ s.size) ∧ lnAt s R p e ts lk := by
        rintro e' ts' lk' h1 h2 rfl rfl rfl
        exact ⟨p2, e', ts', lk', lt, ln, la, rfl, HL.out, HI.out, HO.out, HB.out, h1, ⟨htl, hes⟩, h2⟩
      have hmeas : s.size - w1.iterPos (w.heap.size + 1) < s.size - wo.iterPos (w.heap.size + 1) := by
        have e1 : w1.iterPos (w.heap.size + 1) = p2 := by simp [World.iterPos, HI.out]
        have := Lx.decode_step s p hp
        have := HP2.out
        rw [e1, hpos]
        omega
      have HSK := Lib.hid hskip; have HME := Lib.hid hmeas
      clear hskip hmeas
      by_cases hpe : p < e
      · have hpe' : (p : Int) < (e : Int) := by omega
        go_wp2_with fail
        go_round
        case measure => exact HME.out
        case rel =>
          rcases HAT.out with ⟨h1, h2, ⟨u, hu1, hu2, hu3⟩, hg⟩ | ⟨h1, _⟩ | ⟨h1, _⟩
          · obtain ⟨x, u', rfl⟩ : ∃ x u', u = x :: u' := List.exists_cons_of_ne_nil (fun e0 => by rw [e0] at hu2; simp at hu2; omega)
            rw [HST.out] at hu1
            injection hu1 with h3 h4
            subst h3
            have hp21 := HP1.out (hu3 c (by simp)).2
            simp only [List.length_cons] at hu2
            refine HSK.out e ts lk (by omega) ?_ rfl rfl rfl
            rcases Nat.lt_or_ge p2 e with h5 | h5
            · exact .inl ⟨h5, h2, ⟨u', h4, by omega, fun y hy => hu3 y (by simp [hy])⟩, hg⟩
            · exact .inr (.inl ⟨by omega, hg⟩)
          · omega
          · omega
      · have hpe' : ¬ (p : Int) < (e : Int) := by omega
        have hfree := HAT.out.free (by omega) c _ HST.out
        cases hbl : Lx.blank c
        case true =>
          have hc128 : c < 128 := by have : c = 32 ∨ c = 9 := by simpa [Lx.blank] using hbl
                                     omega
          have hwf : Lx.word c = false := by
            have : c = 32 ∨ c = 9 := by simpa [Lx.blank] using hbl
            rcases this with rfl | rfl <;> decide
          have HFREE := Lib.hid hfree
          clear hfree
          go_wp2_with (go_at_call 28; refine (blank_any _ _).mono ?_; rintro e w' ⟨rfl, rfl⟩; rw [hbl])
          go_round
          case measure => exact HME.out
          case rel =>
            have hp21 := HP1.out hc128
            refine HSK.out e ts lk (by omega) ?_ rfl rfl rfl
            rcases HFREE.out with ⟨_, _, h3, _⟩ | ⟨_, h3⟩
            · rw [hwf] at h3; cases h3
            · rw [Lx.lxA_blank hbl, ← hp21] at h3
              exact .inr (.inr ⟨by omega, h3⟩)
        case false =>
          by_cases h59 : c = 59
          · have hres : R = .ok ts := by
              rcases hfree with ⟨_, _, h3, _⟩ | ⟨_, h3⟩
              · rw [h59] at h3; cases h3
              · rw [h59, Lx.lxA_semi] at h3
                rw [← h3]; simp [Lx.glue]
            have HRES := Lib.hid hres
            clear hres hfree
            subst h59
            go_wp2_with (go_at_call 28; refine (blank_any _ _).mono ?_; rintro e w' ⟨rfl, rfl⟩; rw [hbl])
            go_ret3
            rw [HRES.out]
            exact ⟨_, rfl, own_lower HO.out (by omega), HB.out⟩
          · have k59 : (c == 59) = false := by simpa using h59
            have hq : Lx.runes (s.extract p s.size) = c :: Lx.runesAt s p2 := by rw [Lx.runes_tail]; exact HST.out
            have hsx : (s.extract p s.size).size ≤ 1000000 := by rw [Lib.tail_size]; omega
            have hf := fun W => first_any (s.extract p s.size) c (Lx.runesAt s p2) W hsx hq
            clear hq hsx
            cases hfo : fstOf c (Lx.runesAt s p2) with
            | none =>
              obtain ⟨hw, hbad⟩ := fst_none hfo h59 hbl
              have hres : R = .error p := by
                rcases hfree with ⟨_, _, h3, _⟩ | ⟨_, h3⟩
                · rw [hw] at h3; cases h3
                · rw [hbad] at h3; exact h3.symm
              have HRES := Lib.hid hres
              rw [hfo] at hf
              simp only [fstV] at hf
              have HF := Lib.hid hf
              clear hres hfree hf hfo hbad
              go_wp2_with (first
                | (go_at_call 28; refine (blank_any _ _).mono ?_; rintro e w' ⟨rfl, rfl⟩; rw [hbl])
                | (go_at_call 29; refine (HF.out _).mono ?_; rintro e w2 ⟨rfl, hb2⟩))
              go_ret3
              rw [HRES.out]
              exact ⟨rfl, HB.out.trans ((upA hb2 _).mono (by omega))⟩
            | some t =>
              obtain ⟨q, hq1, hq2, hq3, hk3, hkn, hlx⟩ := fst_step hfo
              obtain ⟨kd, tx, nn, at0⟩ := t
              simp only at hq1 hq2 hq3 hk3 hkn hlx
              have hc128 : c < 128 := by
                obtain ⟨x, t', rfl⟩ : ∃ x t', tx = x :: t' := List.exists_cons_of_ne_nil (fun e0 => by rw [e0] at hq2; simp at hq2)
                injection hq1 with h1 _
                exact h1 ▸ (hq3 x (by simp)).2
              have hp21 := HP1.out hc128
              have hrun3 := Lx.ascii_run tx s p q (by rw [HST.out, hq1]) (fun x hx => (hq3 x hx).2) hps
              obtain ⟨hr1, hr2, _⟩ := hrun3
              rw [hfo] at hf
              simp only [fstV] at hf
              have HF := Lib.hid hf
              clear hf hfo
              have hss : (strOfNums tx).size = tx.length := strOfNums_size tx
              by_cases hcut : p = e ∧ lk = 2 ∧ kd ≠ 3
              · obtain ⟨rfl, rfl, hk⟩ := hcut
                have hres : R = .error p := by
                  rcases hfree with ⟨_, _, _, h3⟩ | ⟨h3, _⟩
                  · exact h3
                  · exact absurd ⟨rfl, rfl, hkn hk⟩ h3
                have HRES := Lib.hid hres
                clear hres hfree hlx hq1 hq3 hr2
                go_wp2_with (go_at_call 28; refine (blank_any _ _).mono ?_; rintro e w' ⟨rfl, rfl⟩; rw [hbl])
                refine (HF.out _).mono ?_
                rintro e w2 ⟨rfl, hb2⟩
                have hl2 := (hb2.block w.heap.size (by omega)).trans HL.out
                have hlt2 : w.heap.size < w2.heap.size := by have := hb2.size; omega
                have f0 : ∀ o, (w2.alloc o).cell? ⟨w.heap.size, 0, none⟩ = some (.int .i64 2) := fun o => by rw [World.cell?_alloc_lt _ _ _ hlt2, cell_of_row _ _ _ _ _ _ hl2]; rfl
                have f1 : ∀ o, (w2.alloc o).cell? ⟨w.heap.size, 1, none⟩ = some (.string lt) := fun o => by rw [World.cell?_alloc_lt _ _ _ hlt2, cell_of_row _ _ _ _ _ _ hl2]; rfl
                have f2 : ∀ o, (w2.alloc o).cell? ⟨w.heap.size, 2, none⟩ = some (.int .i64 ln) := fun o => by rw [World.cell?_alloc_lt _ _ _ hlt2, cell_of_row _ _ _ _ _ _ hl2]; rfl
                have f3 : ∀ o, (w2.alloc o).cell? ⟨w.heap.size, 3, none⟩ = some (.int .i64 la) := fun o => by rw [World.cell?_alloc_lt _ _ _ hlt2, cell_of_row _ _ _ _ _ _ hl2]; rfl
                clear hl2
                go_wp2_with fail
                refine (cut_any _ _ _ _ _ _ _ _ _).mono ?_
                rintro e w3 ⟨rfl, hb3⟩
                rw [show (decide ((2 : Int) = 2) && decide (kd ≠ 3)) = true by simp [hk]]
                go_wp2_with fail
                go_ret3
                rw [HRES.out]
                exact ⟨rfl, (HB.out.trans ((upA hb2 _).mono (by omega))).trans (hb3.mono (by simp; omega))⟩
              · have hg : Lx.glue ts (Lx.lxA p (c :: Lx.runesAt s p2)) = R := by
                  rcases hfree with ⟨h1, h2, h3, _⟩ | ⟨_, h3⟩
                  · refine absurd ⟨h1, h2, fun h4 => ?_⟩ hcut
                    rw [hk3 h4] at h3; cases h3
                  · exact h3
                have hnew : lnAt s R p2 (p + tx.length) (ts ++ [⟨kd, tx, nn, p⟩]) kd := by
                  rw [hlx p, Lx.glue_cons] at hg
                  rcases Nat.lt_or_ge p2 (p + tx.length) with h5 | h5
                  · refine .inl ⟨h5, hr1, ?_, by rw [hr2]; exact hg⟩
                    obtain ⟨x, t', rfl⟩ : ∃ x t', tx = x :: t' := List.exists_cons_of_ne_nil (fun e0 => by rw [e0] at hq2; simp at hq2)
                    injection hq1 with h1 h2
                    refine ⟨t', by rw [hr2]; exact h2, by simp; omega, fun y hy => hq3 y (by simp [hy])⟩
                  · exact .inr (.inl ⟨by omega, by rw [hr2]; exact hg⟩)
                have HNEW := Lib.hid hnew; have HLEN := Lib.hid hss
                clear hnew hg hlx hq1 hq3 hr2 hfree hk3 hkn
                have hp6 : p ≤ 1000000 := by omega
                have htx : tx.length ≤ 1000000 := by omega
                by_cases hpe2 : p = e
                · subst hpe2
                  have hcv : (decide (lk = 2) && decide (kd ≠ 3)) = false := by
                    rw [Bool.eq_false_iff]
                    intro h
                    rw [Bool.and_eq_true, decide_eq_true_eq, decide_eq_true_eq] at h
                    exact hcut ⟨rfl, h.1, h.2⟩
                  go_wp2_with (go_at_call 28; refine (blank_any _ _).mono ?_; rintro e w' ⟨rfl, rfl⟩; rw [hbl])
                  refine (HF.out _).mono ?_
                  rintro e w2 ⟨rfl, hb2⟩
                  have hl2 := (hb2.block w.heap.size (by omega)).trans HL.out
                  have hlt2 : w.heap.size < w2.heap.size := by have := hb2.size; omega
                  have f0 : ∀ o, (w2.alloc o).cell? ⟨w.heap.size, 0, none⟩ = some (.int .i64 lk) := fun o => by rw [World.cell?_alloc_lt _ _ _ hlt2, cell_of_row _ _ _ _ _ _ hl2]; rfl
                  have f1 : ∀ o, (w2.alloc o).cell? ⟨w.heap.size, 1, none⟩ = some (.string lt) := fun o => by rw [World.cell?_alloc_lt _ _ _ hlt2, cell_of_row _ _ _ _ _ _ hl2]; rfl
                  have f2 : ∀ o, (w2.alloc o).cell? ⟨w.heap.size, 2, none⟩ = some (.int .i64 ln) := fun o => by rw [World.cell?_alloc_lt _ _ _ hlt2, cell_of_row _ _ _ _ _ _ hl2]; rfl
                  have f3 : ∀ o, (w2.alloc o).cell? ⟨w.heap.size, 3, none⟩ = some (.int .i64 la) := fun o => by rw [World.cell?_alloc_lt _ _ _ hlt2, cell_of_row _ _ _ _ _ _ hl2]; rfl
                  go_wp2_with fail
                  refine (cut_any _ _ _ _ _ _ _ _ _).mono ?_
                  rintro e w3 ⟨rfl, hb3⟩
                  rw [hcv]
                  have g3 := tok_at _ _ _ _ hb3
                  have hs3 : w2.heap.size < w3.heap.size := by have := hb3.size; simp at this; omega
                  have d3 := cell_of_row _ _ 3 _ _ _ g3
                  have z3 := frozen_of_row _ _ 3 _ _ g3
                  simp only [List.getElem?_toArray, List.getElem?_cons_succ, List.getElem?_cons_zero] at d3
                  have hW10 := heap_setCell_same w3 _ 3 _ _ (.int .i64 (p : Int)) g3
                  simp only [List.setIfInBounds_toArray, List.set_cons_zero, List.set_cons_succ] at hW10
                  have hw12 : w1.heap.size ≤ w2.heap.size := hb2.size
                  have hbW : Below w1.heap.size w1 (w3.setCell ⟨w2.heap.size, 3, none⟩ (.int .i64 (p : Int))) := by
                    have h := upT (upA hb2 _) hb3
                    rw [setCell_eq_setRow _ _ _ _ _ _ _ g3]
                    exact below_setRow h hw12 _
                  have hWl := (hbW.block w.heap.size (by omega)).trans HL.out
                  have hWi := (hbW.block (w.heap.size + 1) (by omega)).trans HI.out
                  have hWown := own_belowT HO.out hbW
                  have hWb := HB.out.trans (hbW.mono (show w.heap.size ≤ w1.heap.size by omega))
                  have hWs : w2.heap.size < (w3.setCell ⟨w2.heap.size, 3, none⟩ (.int .i64 (p : Int))).heap.size := by simp; omega
                  have hWne : ∀ g, u5.ownBlock = some g → g ≠ w2.heap.size := fun g hg => by have := (HO.out.lt g hg).2; omega
                  clear hl2 f0 f1 f2 f3 g3 hb2 hb3 hbW
                  go_wp2_with (first
                    | (refine wp_loadT (o := ⟨some 51, .load 58 (.tmp 10), _, _, _, none⟩) rfl _ rfl w2.heap.size rfl _ _ _ _ _ (0, 0) hW10 ?_)
                    | (at_builtin; refine wp_appT _ rfl (.tmp 50) (.tmp 52) _ rfl (w.heap.size + 2) 58 i0 _ 40 Tryd.underlying49 hi0 hz0 hs0 hb0 rfl _ _ _ rfl hWown _ ⟨kd, tx, nn, p⟩ rfl _ (by simp) rfl (by omega) (by omega) (by omega) ?_; intro v4 w4 hown4 hb4 hsz4 hk4))
                  have h4b : w4.heap[w.heap.size]? = some (.cells #[.int .i64 lk, .string lt, .int .i64 ln, .int .i64 la] 58 (0, 0)) := (hb4.block _ (by omega)).trans hWl
                  have h4i : w4.heap[w.heap.size + 1]? = some (.stringIter s p2) := (hb4.block _ (by omega)).trans hWi
                  have h4t : w4.heap[w2.heap.size]? = some (.cells #[.int .i64 kd, .string (strOfNums tx), .int .i64 nn, .int .i64 (p : Int)] 58 (0, 0)) := (hk4 _ hWs hWne).trans hW10
                  have h4w : Below w.heap.size w w4 := hWb.trans (hb4.mono (by omega))
                  have c0 := cell_of_row _ _ 0 _ _ _ h4t
                  have c1 := cell_of_row _ _ 1 _ _ _ h4t
                  have c2 := cell_of_row _ _ 2 _ _ _ h4t
                  have c3 := cell_of_row _ _ 3 _ _ _ h4t
                  simp only [List.getElem?_toArray, List.getElem?_cons_succ, List.getElem?_cons_zero] at c0 c1 c2 c3
                  have hne10 : w2.heap.size ≠ w.heap.size := by omega
                  have H4T := Lib.hid h4t; have H4I := Lib.hid h4i; have H4W := Lib.hid h4w; have H4B := Lib.hid h4b; have HOWN4 := Lib.hid hown4
                  clear h4t h4i h4w hown4 hWown hWl hWi hW10 hb4 hk4 hWb hWne
                  refine wp_region_noPanic ?_
                  refine wp_region_held_drew (S := fun w' => w'.cell? ⟨w2.heap.size, 0, none⟩ = some (.int .i64 kd) ∧ w'.cell? ⟨w2.heap.size, 1, none⟩ = some (.string (strOfNums tx)) ∧ w'.cell? ⟨w2.heap.size, 2, none⟩ = some (.int .i64 nn) ∧ w'.cell? ⟨w2.heap.size, 3, none⟩ = some (.int .i64 (p : Int))) (by kernel_rfl) ?_ (fun hHeld => ?_)
                  · exact ⟨c0, c1, c2, c3⟩
                  refine wpAnyH_take (i := 0) (oi := _) (v := ?_) rfl (by kernel_rfl) (by kernel_rfl) (by kernel_rfl) (fun _ _ _ h => h) (Or.inl ⟨by kernel_rfl, ?_⟩) (by assumption) ?_
                  rotate_left
                  · (intro w hSw; (try dsimp only at hSw); go_simp; try (with_reducible rfl))
                  (try simp only [List.getElem_toArray, List.getElem_cons_succ, List.getElem_cons_zero, Act.put, List.setIfInBounds_toArray, List.set_cons_zero, List.set_cons_succ])
                  refine wpAnyH_take (i := 1) (oi := _) (v := ?_) rfl (by kernel_rfl) (by kernel_rfl) (by kernel_rfl) (fun _ _ _ h => h) (Or.inl ⟨by kernel_rfl, ?_⟩) (by assumption) ?_
                  rotate_left
                  · (intro w hSw; (try dsimp only at hSw); go_simp; try (with_reducible rfl))
                  (try simp only [List.getElem_toArray, List.getElem_cons_succ, List.getElem_cons_zero, Act.put, List.setIfInBounds_toArray, List.set_cons_zero, List.set_cons_succ])
                  refine wpAnyH_take (i := 2) (oi := _) (v := ?_) rfl (by kernel_rfl) (by kernel_rfl) (by kernel_rfl) (fun _ _ _ h => h) (Or.inl ⟨by kernel_rfl, ?_⟩) (by assumption) ?_
                  rotate_left
                  · (intro w hSw; (try dsimp only at hSw); go_simp; try (with_reducible rfl))
                  (try simp only [List.getElem_toArray, List.getElem_cons_succ, List.getElem_cons_zero, Act.put, List.setIfInBounds_toArray, List.set_cons_zero, List.set_cons_succ])
                  refine wpAnyH_take (i := 3) (oi := _) (v := ?_) rfl (by kernel_rfl) (by kernel_rfl) (by kernel_rfl) (fun _ _ _ h => h) (Or.inl ⟨by kernel_rfl, ?_⟩) (by assumption) ?_
                  rotate_left
                  · (intro w hSw; (try dsimp only at hSw); go_simp; try (with_reducible rfl))
                  (try simp only [List.getElem_toArray, List.getElem_cons_succ, List.getElem_cons_zero, Act.put, List.setIfInBounds_toArray, List.set_cons_zero, List.set_cons_succ])
                  refine wpAnyH_take (i := 4) (oi := _) (v := ?_) rfl (by kernel_rfl) (by kernel_rfl) (by kernel_rfl) (fun _ _ _ h => h) (Or.inl ⟨by kernel_rfl, ?_⟩) (by assumption) ?_
                  rotate_left
                  · (intro w hSw; (try dsimp only at hSw); go_simp; try (with_reducible rfl))
                  (try simp only [List.getElem_toArray, List.getElem_cons_succ, List.getElem_cons_zero, Act.put, List.setIfInBounds_toArray, List.set_cons_zero, List.set_cons_succ])
                  refine wpAnyH_take (i := 5) (oi := _) (v := ?_) rfl (by kernel_rfl) (by kernel_rfl) (by kernel_rfl) (fun _ _ _ h => h) (Or.inl ⟨by kernel_rfl, ?_⟩) (by assumption) ?_
                  rotate_left
                  · (intro w hSw; (try dsimp only at hSw); go_simp; try (with_reducible rfl))
                  (try simp only [List.getElem_toArray, List.getElem_cons_succ, List.getElem_cons_zero, Act.put, List.setIfInBounds_toArray, List.set_cons_zero, List.set_cons_succ])
                  refine wpAnyH_ready (rs := [6]) (by kernel_rfl) (by simp) ?_
                  refine AllReadyH.cons (o := _) rfl (fun K hK => ?_) AllReadyH.nil
                  refine step_storeT rfl _ _ rfl w.heap.size _ _ _ _ rfl rfl _ _ _ _ _ (show w4.drew.heap[w.heap.size]? = _ from H4B.out) rfl rfl rfl rfl ?_
                  first | refine hK.out _ _ ?_ (fun hHeld => ?_) | (go_wp2_with fail; refine hK.out _ _ ?_ (fun hHeld => ?_))
                  · exact ⟨(cell_setRow_other _ _ _ _ hne10).trans c0, (cell_setRow_other _ _ _ _ hne10).trans c1, (cell_setRow_other _ _ _ _ hne10).trans c2, (cell_setRow_other _ _ _ _ hne10).trans c3⟩
                  clear hK K
                  (try simp only [List.getElem_toArray, List.getElem_cons_succ, List.getElem_cons_zero, Act.put, List.setIfInBounds_toArray, List.set_cons_zero, List.set_cons_succ])
                  refine wpAnyH_take (i := 7) (oi := _) (v := ?_) rfl (by kernel_rfl) (by kernel_rfl) (by kernel_rfl) (fun _ _ _ h => h) (Or.inl ⟨by kernel_rfl, ?_⟩) (by assumption) ?_
                  rotate_left
                  · (intro w hSw; (try dsimp only at hSw); go_simp; try (with_reducible rfl))
                  (try simp only [List.getElem_toArray, List.getElem_cons_succ, List.getElem_cons_zero, Act.put, List.setIfInBounds_toArray, List.set_cons_zero, List.set_cons_succ])
                  refine wpAnyH_done (by kernel_rfl) ?_ _
                  refine NoPanic.normal ?_
                  (try go_simp)
                  go_wp2_with fail
                  go_round
                  case measure =>
                    have e1 : (w4.drew.setRow w.heap.size #[.int .i64 kd, .string (strOfNums tx), .int .i64 nn, .int .i64 (p : Int)]).iterPos (w.heap.size + 1) = p2 := by
                      have : (w4.drew.setRow w.heap.size #[.int .i64 kd, .string (strOfNums tx), .int .i64 nn, .int .i64 (p : Int)]).heap[w.heap.size + 1]? = some (.stringIter s p2) := (setRow_other _ _ _ _ (by omega)).trans H4I.out
                      simp [World.iterPos, this]
                    have := Lx.decode_step s p hp
                    have := HP2.out
                    rw [e1, hpos]
                    omega
                  case rel =>
                    refine ⟨p2, p + tx.length, ts ++ [⟨kd, tx, nn, p⟩], kd, strOfNums tx, nn, p, wrap_nn p tx.length hp6 htx, setRow_heap _ _ _ _ _ _ (show w4.drew.heap[w.heap.size]? = _ from H4B.out), (setRow_other _ _ _ _ (by omega)).trans H4I.out, ?_, below_setRow (upD H4W.out 1) (Nat.le_refl _) _, by omega, ?_, HNEW.out⟩
                    · rw [flat_app, flat_one, List.length_append]
                      exact own_keepb HOWN4.out (fun k hk => setRow_other _ _ _ _ (by omega))
                    · rw [List.length_append, List.length_singleton]; omega
                · have hpe3 : ¬ (p : Int) = (e : Int) := by omega
                  have hpe4 : ((p : Int) == (e : Int)) = false := by simp; omega
                  go_wp2_with (go_at_call 28; refine (blank_any _ _).mono ?_; rintro e w' ⟨rfl, rfl⟩; rw [hbl])
                  refine (HF.out _).mono ?_
                  rintro e' w2 ⟨rfl, hb2⟩
                  have hw12 : w1.heap.size ≤ w2.heap.size := hb2.size
                  have hbW := upA hb2 (.cells #[.int .i64 kd, .string (strOfNums tx), .int .i64 nn, .int .i64 (p : Int)] 58)
                  have hW10 := heap_alloc_new w2 (.cells #[.int .i64 kd, .string (strOfNums tx), .int .i64 nn, .int .i64 (p : Int)] 58)
                  have hWl := (hbW.block w.heap.size (by omega)).trans HL.out
                  have hWi := (hbW.block (w.heap.size + 1) (by omega)).trans HI.out
                  have hWown := own_belowT HO.out hbW
                  have hWb := HB.out.trans (hbW.mono (show w.heap.size ≤ w1.heap.size by omega))
                  have hWs : w2.heap.size < (w2.alloc (.cells #[.int .i64 kd, .string (strOfNums tx), .int .i64 nn, .int .i64 (p : Int)] 58)).heap.size := by simp
                  have hWne : ∀ g, u5.ownBlock = some g → g ≠ w2.heap.size := fun g hg => by have := (HO.out.lt g hg).2; omega
                  clear hb2 hbW
                  go_wp2_with (first
                    | (refine wp_loadT (o := ⟨some 51, .load 58 (.tmp 10), _, _, _, none⟩) rfl _ rfl w2.heap.size rfl _ _ _ _ _ (0, 0) hW10 ?_)
                    | (at_builtin; refine wp_appT _ rfl (.tmp 50) (.tmp 52) _ rfl (w.heap.size + 2) 58 i0 _ 40 Tryd.underlying49 hi0 hz0 hs0 hb0 rfl _ _ _ rfl hWown _ ⟨kd, tx, nn, p⟩ rfl _ (by simp) rfl (by omega) (by omega) (by omega) ?_; intro v4 w4 hown4 hb4 hsz4 hk4))
                  have h4b : w4.heap[w.heap.size]? = some (.cells #[.int .i64 lk, .string lt, .int .i64 ln, .int .i64 la] 58 (0, 0)) := (hb4.block _ (by omega)).trans hWl
                  have h4i : w4.heap[w.heap.size + 1]? = some (.stringIter s p2) := (hb4.block _ (by omega)).trans hWi
                  have h4t : w4.heap[w2.heap.size]? = some (.cells #[.int .i64 kd, .string (strOfNums tx), .int .i64 nn, .int .i64 (p : Int)] 58 (0, 0)) := (hk4 _ hWs hWne).trans hW10
                  have h4w : Below w.heap.size w w4 := hWb.trans (hb4.mono (by omega))
                  have c0 := cell_of_row _ _ 0 _ _ _ h4t
                  have c1 := cell_of_row _ _ 1 _ _ _ h4t
                  have c2 := cell_of_row _ _ 2 _ _ _ h4t
                  have c3 := cell_of_row _ _ 3 _ _ _ h4t
                  simp only [List.getElem?_toArray, List.getElem?_cons_succ, List.getElem?_cons_zero] at c0 c1 c2 c3
                  have hne10 : w2.heap.size ≠ w.heap.size := by omega
                  have H4T := Lib.hid h4t; have H4I := Lib.hid h4i; have H4W := Lib.hid h4w; have H4B := Lib.hid h4b; have HOWN4 := Lib.hid hown4
                  clear h4t h4i h4w hown4 hWown hWl hWi hW10 hb4 hk4 hWb hWne
                  refine wp_region_noPanic ?_
                  refine wp_region_held_drew (S := fun w' => w'.cell? ⟨w2.heap.size, 0, none⟩ = some (.int .i64 kd) ∧ w'.cell? ⟨w2.heap.size, 1, none⟩ = some (.string (strOfNums tx)) ∧ w'.cell? ⟨w2.heap.size, 2, none⟩ = some (.int .i64 nn) ∧ w'.cell? ⟨w2.heap.size, 3, none⟩ = some (.int .i64 (p : Int))) (by kernel_rfl) ?_ (fun hHeld => ?_)
                  · exact ⟨c0, c1, c2, c3⟩
                  refine wpAnyH_take (i := 0) (oi := _) (v := ?_) rfl (by kernel_rfl) (by kernel_rfl) (by kernel_rfl) (fun _ _ _ h => h) (Or.inl ⟨by kernel_rfl, ?_⟩) (by assumption) ?_
                  rotate_left
                  · (intro w hSw; (try dsimp only at hSw); go_simp; try (with_reducible rfl))
                  (try simp only [List.getElem_toArray, List.getElem_cons_succ, List.getElem_cons_zero, Act.put, List.setIfInBounds_toArray, List.set_cons_zero, List.set_cons_succ])
                  refine wpAnyH_take (i := 1) (oi := _) (v := ?_) rfl (by kernel_rfl) (by kernel_rfl) (by kernel_rfl) (fun _ _ _ h => h) (Or.inl ⟨by kernel_rfl, ?_⟩) (by assumption) ?_
                  rotate_left
                  · (intro w hSw; (try dsimp only at hSw); go_simp; try (with_reducible rfl))
                  (try simp only [List.getElem_toArray, List.getElem_cons_succ, List.getElem_cons_zero, Act.put, List.setIfInBounds_toArray, List.set_cons_zero, List.set_cons_succ])
                  refine wpAnyH_take (i := 2) (oi := _) (v := ?_) rfl (by kernel_rfl) (by kernel_rfl) (by kernel_rfl) (fun _ _ _ h => h) (Or.inl ⟨by kernel_rfl, ?_⟩) (by assumption) ?_
                  rotate_left
                  · (intro w hSw; (try dsimp only at hSw); go_simp; try (with_reducible rfl))
                  (try simp only [List.getElem_toArray, List.getElem_cons_succ, List.getElem_cons_zero, Act.put, List.setIfInBounds_toArray, List.set_cons_zero, List.set_cons_succ])
                  refine wpAnyH_take (i := 3) (oi := _) (v := ?_) rfl (by kernel_rfl) (by kernel_rfl) (by kernel_rfl) (fun _ _ _ h => h) (Or.inl ⟨by kernel_rfl, ?_⟩) (by assumption) ?_
                  rotate_left
                  · (intro w hSw; (try dsimp only at hSw); go_simp; try (with_reducible rfl))
                  (try simp only [List.getElem_toArray, List.getElem_cons_succ, List.getElem_cons_zero, Act.put, List.setIfInBounds_toArray, List.set_cons_zero, List.set_cons_succ])
                  refine wpAnyH_take (i := 4) (oi := _) (v := ?_) rfl (by kernel_rfl) (by kernel_rfl) (by kernel_rfl) (fun _ _ _ h => h) (Or.inl ⟨by kernel_rfl, ?_⟩) (by assumption) ?_
                  rotate_left
                  · (intro w hSw; (try dsimp only at hSw); go_simp; try (with_reducible rfl))
                  (try simp only [List.getElem_toArray, List.getElem_cons_succ, List.getElem_cons_zero, Act.put, List.setIfInBounds_toArray, List.set_cons_zero, List.set_cons_succ])
                  refine wpAnyH_take (i := 5) (oi := _) (v := ?_) rfl (by kernel_rfl) (by kernel_rfl) (by kernel_rfl) (fun _ _ _ h => h) (Or.inl ⟨by kernel_rfl, ?_⟩) (by assumption) ?_
                  rotate_left
                  · (intro w hSw; (try dsimp only at hSw); go_simp; try (with_reducible rfl))
                  (try simp only [List.getElem_toArray, List.getElem_cons_succ, List.getElem_cons_zero, Act.put, List.setIfInBounds_toArray, List.set_cons_zero, List.set_cons_succ])
                  refine wpAnyH_ready (rs := [6]) (by kernel_rfl) (by simp) ?_
                  refine AllReadyH.cons (o := _) rfl (fun K hK => ?_) AllReadyH.nil
                  refine step_storeT rfl _ _ rfl w.heap.size _ _ _ _ rfl rfl _ _ _ _ _ (show w4.drew.heap[w.heap.size]? = _ from H4B.out) rfl rfl rfl rfl ?_
                  first | refine hK.out _ _ ?_ (fun hHeld => ?_) | (go_wp2_with fail; refine hK.out _ _ ?_ (fun hHeld => ?_))
                  · exact ⟨(cell_setRow_other _ _ _ _ hne10).trans c0, (cell_setRow_other _ _ _ _ hne10).trans c1, (cell_setRow_other _ _ _ _ hne10).trans c2, (cell_setRow_other _ _ _ _ hne10).trans c3⟩
                  clear hK K
                  (try simp only [List.getElem_toArray, List.getElem_cons_succ, List.getElem_cons_zero, Act.put, List.setIfInBounds_toArray, List.set_cons_zero, List.set_cons_succ])
                  refine wpAnyH_take (i := 7) (oi := _) (v := ?_) rfl (by kernel_rfl) (by kernel_rfl) (by kernel_rfl) (fun _ _ _ h => h) (Or.inl ⟨by kernel_rfl, ?_⟩) (by assumption) ?_
                  rotate_left
                  · (intro w hSw; (try dsimp only at hSw); go_simp; try (with_reducible rfl))
                  (try simp only [List.getElem_toArray, List.getElem_cons_succ, List.getElem_cons_zero, Act.put, List.setIfInBounds_toArray, List.set_cons_zero, List.set_cons_succ])
                  refine wpAnyH_done (by kernel_rfl) ?_ _
                  refine NoPanic.normal ?_
                  (try go_simp)
                  go_wp2_with fail
                  go_round
                  case measure =>
                    have e1 : (w4.drew.setRow w.heap.size #[.int .i64 kd, .string (strOfNums tx), .int .i64 nn, .int .i64 (p : Int)]).iterPos (w.heap.size + 1) = p2 := by
                      have : (w4.drew.setRow w.heap.size #[.int .i64 kd, .string (strOfNums tx), .int .i64 nn, .int .i64 (p : Int)]).heap[w.heap.size + 1]? = some (.stringIter s p2) := (setRow_other _ _ _ _ (by omega)).trans H4I.out
                      simp [World.iterPos, this]
                    have := Lx.decode_step s p hp
                    have := HP2.out
                    rw [e1, hpos]
                    omega
                  case rel =>
                    refine ⟨p2, p + tx.length, ts ++ [⟨kd, tx, nn, p⟩], kd, strOfNums tx, nn, p, wrap_nn p tx.length hp6 htx, setRow_heap _ _ _ _ _ _ (show w4.drew.heap[w.heap.size]? = _ from H4B.out), (setRow_other _ _ _ _ (by omega)).trans H4I.out, ?_, below_setRow (upD H4W.out 1) (Nat.le_refl _) _, by omega, ?_, HNEW.out⟩
                    · rw [flat_app, flat_one, List.length_append]
                      exact own_keepb HOWN4.out (fun k hk => setRow_other _ _ _ _ (by omega))
                    · rw [List.length_append, List.length_singleton]; omega
    · have hres := hat.end_ hp hps
      have HRES := Lib.hid hres
      clear hres
      have hrun : ∀ ty, (Instr.next (.pointer (some ⟨w.heap.size + 1, 0, none⟩)) true ty).run Tryd.prog wo = .ok (.tuple #[.bool false]) wo := fun ty => HNE.out wo (w.heap.size + 1) s p ty hit hp
      have HO := Lib.hid hown
      clear hit hat hlast hown
      go_wp2_with fail
      go_ret3
      rw [HRES.out]
      exact ⟨_, rfl, own_lower HO.out (by omega), hbw⟩
end Go.Proofs.YtcpbbkpfickfiaaDoor
