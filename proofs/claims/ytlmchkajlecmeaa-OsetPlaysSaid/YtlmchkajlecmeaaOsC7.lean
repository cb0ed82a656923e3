/- The walk of the program's own addRun. -/
import Derived.Test.YtlmchkajlecmeaaOsC6
import Derived.Test.YtlmchkajlecmeaaOsC4
set_option linter.unusedVariables false
set_option linter.unusedSimpArgs false
namespace Go.Proofs.Ytlmchkajlecmeaa
open Go.RowKit
/-- what addRun leaves -/
def RunPost (g b most rk m' : Nat) (L : List (List Int)) (vK : Value) (KS : List Value) (S : Nat → Prop) (A : Option Addr) (n : Nat) (w : World) (e : Ending) (w' : World) : Prop :=
  e = .returned (.tuple #[]) ∧ ∃ R' vR' RS' S', CsIs w' g b most rk m' L R' vK vR' KS RS' S' ∧ Fr S w w' ∧ ∀ k, S' k → S k ∨ (∃ ad, 0 < n ∧ A = some ad ∧ k = ad.block) ∨ w.heap.size ≤ k
theorem flat_take {R : List (List Nat)} {k : Nat} (hk : k < R.length) : (R.take (k + 1)).flatten = (R.take k).flatten ++ R.getD k [] := by
  rw [List.take_add_one, List.flatten_append]
  simp [List.getD, hk]
theorem ob_slice (A : Option Addr) (n c n' c' : Nat) : (Value.slice A n c).ownBlock = (Value.slice A n' c').ownBlock := by cases A <;> rfl
set_option maxRecDepth 100000 in
set_option maxHeartbeats 4000000 in
theorem addRun_any (g b most rk m m' : Nat) (L : List (List Int)) (R : List (List Nat)) (vK vR : Value) (KS RS : List Value) (S : Nat → Prop) (A : Option Addr) (c : Nat) (run : List Nat) (w : World)
    (h : CsIs w g b most rk m L R vK vR KS RS S) (hr : Rd w w.heap.size A ((intsOf run).map (Value.int .i64))) (hc : run.length ≤ c) (hcm : c ≤ maxLen) (hsrt : Os.Srt L run) (hperm : (R.flatten ++ run).Perm (List.range m')) (hm' : m' ≤ L.length) (hne : 0 < run.length)
    (hA : ∀ ad, 0 < run.length → A = some ad → ¬ Wr g b vK vR ad.block) :
    Calls Try.prog 20 #[.pointer (some ⟨g, 0, none⟩), .slice A run.length c] w (RunPost g b most rk m' L vK KS S A run.length w) := by
  obtain ⟨i0, hi0, hz0, hs0, hb0⟩ := info_parts infoSI
  obtain ⟨AR, cR, eR, hcR, hmR, hrR⟩ := h.sliceR
  have hf := h.few
  have k4 : w.cell? ⟨g, 4, none⟩ = some (.slice AR R.length cR) := by rw [← eR]; exact h.cell 4
  have hgw := h.glt
  have hRm : R.length ≤ 1000000 := by have := h.runs.len; have := h.runs.le; omega
  have hRm' : R.length + 1 ≤ m' := by
    have h1 := hperm.length_eq
    have h2 := h.runs.perm.length_eq
    have h3 := h.runs.len
    simp at h1 h2
    omega
  have H := Lib.hid h
  have HR := Lib.hid hr; have HS := Lib.hid hsrt; have HP := Lib.hid hperm; have HA := Lib.hid hA
  clear h hr hsrt hperm hA hrR
  generalize hn0 : run.length = n0 at *
  have HN0 := Lib.hid hn0
  clear hn0
  go_enter Try.func20, Try.ntmps20
  go_wp2_with fail
  go_loopw [4, 1] (fun vn vr wr => ∃ (n : Nat) (xs : List Nat) (A' : Option Addr) (c' : Nat), vn = .int .i64 n ∧ vr = .slice A' xs.length c' ∧ n ≤ R.length ∧ xs.length ≤ c' ∧ c' ≤ maxLen ∧ Rd wr wr.heap.size A' ((intsOf xs).map (Value.int .i64)) ∧ Os.Srt L xs ∧ ((R.take n).flatten ++ xs).Perm (List.range m') ∧
      Below w.heap.size w wr ∧ (∀ ad, 0 < xs.length → A' = some ad → ¬ Wr g b vK vR ad.block ∧ ((∃ ad0, 0 < n0 ∧ A = some ad0 ∧ ad.block = ad0.block) ∨ w.heap.size ≤ ad.block))) (fun vn _ _ => (intOf vn).toNat)
  case atStart =>
    exact ⟨R.length, run, A, c, rfl, by rw [HN0.out], Nat.le_refl _, by rw [HN0.out]; exact hc, hcm, HR.out, HS.out, by rw [List.take_length]; exact HP.out, up0 _, fun ad hn e => by rw [HN0.out] at hn; exact ⟨HA.out ad hn e, .inl ⟨ad, hn, e, rfl⟩⟩⟩
  case round =>
    obtain ⟨n, xs, A', c', rfl, rfl, hn, hxc, hxm, hrx, hsx, hpx, hbw, hsrc⟩ := hrel
    obtain ⟨wo, rfl⟩ : ∃ wo : World, wo = wr := ⟨_, rfl⟩
    have HX := Lib.hid hrx; have HSX := Lib.hid hsx; have HPX := Lib.hid hpx; have HSRC := Lib.hid hsrc
    clear hrx hsx hpx hsrc
    have hws := hbw.size
    have k4o : wo.cell? ⟨g, 4, none⟩ = some (.slice AR R.length cR) := (hbw.cell (p := ⟨g, 4, none⟩) hgw).trans k4
    have key : n = 0 ∨ ∃ k, n = k + 1 ∧ k < R.length := by
      rcases n with _ | k
      · exact .inl rfl
      · exact .inr ⟨k, rfl, by omega⟩
    have key2 : (n = 0 ∨ ∃ k, n = k + 1 ∧ k < R.length ∧ (R.getD k []).length ≠ xs.length) ∨ ∃ k, n = k + 1 ∧ k < R.length ∧ (R.getD k []).length = xs.length := by
      rcases key with h | ⟨k, h1, h2⟩
      · exact .inl (.inl h)
      · by_cases he : (R.getD k []).length = xs.length
        · exact .inr ⟨k, h1, h2, he⟩
        · exact .inl (.inr ⟨k, h1, h2, he⟩)
    clear key
    rcases key2 with hex | ⟨k, rfl, hkR, hlen⟩
    · have hown : (wo.alloc (.cells #[.slice A' xs.length c'] 38)).ownsRow 0 38 1 (.slice AR n cR) n (RS.take n) := by
        have h1 := (H.out.up hbw).rowR
        rw [eR] at h1
        exact (own_take h1 hn).alloc _
      have i0' : (0 : Int) ≤ (n : Int) := by omega
      have i1' : (n : Int) ≤ (cR : Int) := by omega
      have hlenRS := H.out.segs.1
      simp only [List.length_map] at hlenRS
      have hxlt : ∀ ad, 0 < xs.length → A' = some ad → ad.block < wo.heap.size := fun ad hx e => by
        obtain ⟨ad', e', hb, _⟩ := HX.out (by simpa [intsOf] using hx)
        rw [e] at e'
        cases e'
        exact hb
      have HXL := Lib.hid hxlt
      clear hxlt
      have fin : ∀ gr cap w3, w3.ownsRow 0 38 1 (.slice (some ⟨gr, 0, none⟩) (n + 1) cap) (n + 1) (RS.take n ++ [.slice A' xs.length c']) → (wo.alloc (.cells #[.slice A' xs.length c'] 38)).grownBy w3 (Value.slice AR n cR).ownBlock → ((Value.slice AR n cR).ownBlock = some gr ∨ gr = wo.heap.size + 1) →
          w3.cell? ⟨g, 4, none⟩ = some vR ∧ w3.frozen? ⟨g, 4, none⟩ = false ∧ RunPost g b most rk m' L vK KS S A n0 w (.returned (.tuple #[])) (w3.setCell ⟨g, 4, none⟩ (.slice (some ⟨gr, 0, none⟩) (n + 1) cap)) := by
        intro gr cap w3 hown3 hgr3 hat3
        have h := H.out.up hbw
        have hF : Fr (fun k => vR.ownBlock = some k) wo w3 := by
          rw [eR, ob_slice AR R.length cR n cR]
          exact (Fr.of_below (S := fun k => (Value.slice AR n cR).ownBlock = some k) (upA (up0 wo) _)).trans (Fr.of_grown hgr3) (fun x hx => .inl hx)
        have hd : w3.heap[g]? = some (.cells #[.int .i64 most, vK, .map (some b), .int .i64 rk, vR] 50 (0, 0)) := (hF.block g h.glt (fun e => h.ne.2.2.2.2.1 e)).trans h.head
        refine ⟨by rw [cell_of_row _ g 4 _ _ _ hd]; rfl, frozen_of_row _ _ _ _ _ hd, rfl, ?_⟩
        have hloc : vR.ownBlock = some gr ∨ wo.heap.size ≤ gr := hat3.imp (fun h => by rw [eR, ob_slice AR R.length cR n cR]; exact h) (fun h => by omega)
        have hx3 : Rd w3 w3.heap.size A' ((intsOf xs).map (Value.int .i64)) := HX.out.fr0 hF (fun ad hx e e2 => (HSRC.out ad (by simpa [intsOf] using hx) e).1 (.inr (.inr (.inr e2))))
        have hlt : ∀ i ∈ xs, i < m' := fun i hi => by
          have := (HPX.out.mem_iff (a := i)).1 (List.mem_append.2 (.inr hi))
          simpa using this
        have hruns : Os.Runs L m' (R.take n ++ [xs]) := ⟨hm', by simpa using HPX.out, fun r hr => by
          rcases List.mem_append.1 hr with hr | hr
          · exact h.runs.sorted r (List.mem_of_mem_take hr)
          · simp at hr; subst hr; exact HSX.out, by simp; omega⟩
        have hres := h.ran hn hxc hxm hx3 (fun ad hx e => ⟨(HSRC.out ad hx e).1, fun e2 => by
          rcases hat3 with h4 | h4
          · exact (HSRC.out ad hx e).1 (.inr (.inr (.inr (by rw [eR, e2, ob_slice AR R.length cR n cR]; exact h4))))
          · have := HXL.out ad hx e; omega⟩) hown3 hF hloc hruns
        refine ⟨_, _, _, _, hres.1, (Fr.of_below hbw).trans hres.2 (fun x hx => .inl hx), fun k hk => ?_⟩
        rcases hk with hk | ⟨⟨ad, h5, h6, h7⟩ | hk, _⟩
        · exact .inl hk
        · rcases (HSRC.out ad h5 h6).2 with ⟨ad0, h8, h9, h10⟩ | h8
          · exact .inr (.inl ⟨ad0, h8, h9, by rw [h7, h10]⟩)
          · exact .inr (.inr (by rw [h7]; exact h8))
        · exact .inr (.inr (by omega))
      have FIN := Lib.hid fin
      clear fin
      rcases hex with rfl | ⟨k, rfl, hkR, hlen⟩
      all_goals
        first
          | (obtain ⟨aR, cR', A1, c1, eR', hcR', hcell, hrk, hlk, hmk, hin, hblk⟩ := (H.out.up hbw).runAt hkR
             rw [eR] at eR'
             simp only [Value.slice.injEq, true_and] at eR'
             obtain ⟨rfl, rfl⟩ := eR'
             have b0 : (0 : Int) ≤ (k : Int) := by omega
             have b1 : (k : Int) < (R.length : Int) := by omega
             have b2 : (0 : Int) < (k : Int) + 1 := by omega
             clear hrk hblk hin
             generalize R.getD k [] = rk1 at *
             have e0 : ((rk1.length : Int) == (xs.length : Int)) = false := by simp; omega
             clear hlen)
          | skip
        generalize hlx : xs.length = lx at *
        go_wp2_with (at_builtin; go_loud (refine wpList_append_lies _ rfl (.tmp 44) (.tmp 46) 48 rfl 0 38 i0 _ 1 24 Try.underlying48 hi0 hz0 hs0 hb0 rfl (by omega) _ _ _ (by rfl) hown ⟨wo.heap.size, 0, none⟩ 1 1 [.slice A' lx c'] rfl (by simp) (cell_one_new _ _ _) (by intro u hu; simp at hu; rw [hu]; rfl) (by omega) (by simp only [maxLen]; omega) (by omega) (by omega) (wo.heap.size + 1) (by simp) ?_; intro gr cap w3 hown3 hgr3 hat3 hlt3; obtain ⟨f1, f2, f3⟩ := FIN.out gr cap w3 hown3 hgr3 hat3; have F3 := Lib.hid f3; clear f3))
        go_end0
        exact F3.out
    · obtain ⟨aR, cR', A1, c1, eR', hcR', hcell, hrk, hlk, hmk, hin, hblk⟩ := (H.out.up hbw).runAt hkR
      rw [eR] at eR'
      simp only [Value.slice.injEq, true_and] at eR'
      obtain ⟨rfl, rfl⟩ := eR'
      have b0 : (0 : Int) ≤ (k : Int) := by omega
      have b1 : (k : Int) < (R.length : Int) := by omega
      have hfl := flat_take hkR
      have HFL := Lib.hid hfl; have HIN := Lib.hid hin; have HRK := Lib.hid hrk
      clear hfl hin hrk hblk
      generalize R.getD k [] = rk1 at *
      have hle : rk1.length + xs.length ≤ 1000000 := by
        have h1 := HPX.out.length_eq
        rw [HFL.out] at h1
        simp at h1
        omega
      have hxlt : ∀ i ∈ xs, i < m' := fun i hi => by
        have := (HPX.out.mem_iff (a := i)).1 (List.mem_append.2 (.inr hi))
        simpa using this
      have hmg := merge_any g b most rk m L R vK vR KS RS S A1 A' c1 c' rk1 xs wo (H.out.up hbw) HRK.out HX.out (fun i hi => Nat.lt_of_lt_of_le (H.out.runs.lt HIN.out hi) H.out.runs.le) (fun i hi => Nat.lt_of_lt_of_le (hxlt i hi) hm') hlk hxc hmk hxm hle
      clear hxlt
      have HLX : rk1.length = xs.length := hlen
      rw [hlen] at hmg
      have HMG := Lib.hid hmg; have HLE := Lib.hid HLX
      clear hmg HLX
      generalize hlx : xs.length = lx at *
      have e0 : ((lx : Int) == (lx : Int)) = true := by simp
      go_wp2_with (go_at_call 25; refine HMG.out.mono ?_; intro e w2 hp2; obtain ⟨A2, c2, rfl, q1, q2, q3, q4, q5⟩ := hp2.sl)
      go_round
      case measure => simp [intOf]
      case rel =>
        have hsr := Os.mrg_sorted (fun x hx => (H.out.bytes x hx).1) _ rk1 xs rfl (H.out.runs.sorted _ HIN.out) HSX.out
        have hpr := Os.mrg_perm L _ rk1 xs rfl
        refine ⟨k, Os.mrg L rk1 xs, A2, c2, by go_num, by rw [intsOf_len], by omega, by rw [intsOf_len] at q1; exact q1, q2, q4, hsr, ?_, upT hbw q5, fun ad hx e => ?_⟩
        · refine (List.Perm.append_left _ hpr).trans ?_
          rw [← List.append_assoc, ← HFL.out]
          exact HPX.out
        · subst e
          have h1 := (q3.lt ad.block rfl).1
          refine ⟨fun hw => ?_, .inr (by omega)⟩
          have := H.out.lt _ (H.out.foot _ hw)
          omega
end Go.Proofs.Ytlmchkajlecmeaa
