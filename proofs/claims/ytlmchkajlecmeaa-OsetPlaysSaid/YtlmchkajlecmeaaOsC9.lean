/- The contract of the program's own Rank. -/
import Derived.Test.YtlmchkajlecmeaaOsC8
set_option linter.unusedVariables false
set_option linter.unusedSimpArgs false
namespace Go.Proofs.Ytlmchkajlecmeaa
open Go.RowKit
/-- what the number of ranked keys is, in a world -/
def rkOf (g : Nat) (w : World) : Nat := match w.cell? ⟨g, 3, none⟩ with | some (.int _ n) => n.toNat | _ => 0
theorem rkOf_eq {g : Nat} {w : World} {r : Nat} (h : w.cell? ⟨g, 3, none⟩ = some (.int .i64 (r : Int))) : rkOf g w = r := by unfold rkOf; rw [h]; simp
/-- what the loop that ranks keeps -/
def Ranking (w2 w : World) (g b most : Nat) (L : List (List Int)) (vK : Value) (KS : List Value) (S : Nat → Prop) (r : Nat) : Prop :=
  ∃ R vR RS S', CsIs w g b most r r L R vK vR KS RS S' ∧ Fr S w2 w ∧ ∀ k, S' k → S k ∨ w2.heap.size ≤ k
theorem Fr.cell {S : Nat → Prop} {w w' : World} (hf : Fr S w w') {p : Addr} {v : Value} (h : w.cell? p = some v) (hn : ¬ S p.block) : w'.cell? p = some v := (World.cell?_of_block (hf.block p.block (World.block_lt_of_cell? w p h) hn)).trans h
theorem srt_one (L : List (List Int)) (i : Nat) : Os.Srt L [i] := by unfold Os.Srt; simp
theorem perm_one {R : List (List Nat)} {r : Nat} (h : R.flatten.Perm (List.range r)) : (R.flatten ++ [r]).Perm (List.range (r + 1)) := by
  rw [List.range_succ]; exact List.Perm.append_right _ h
/-- the number of ranked keys is put up -/
theorem CsIs.bump {w : World} {g b most rk m : Nat} {L : List (List Int)} {R : List (List Nat)} {vK vR : Value} {KS RS : List Value} {S : Nat → Prop} (h : CsIs w g b most rk m L R vK vR KS RS S) {rk' : Nat} (hl : rk' ≤ L.length) : CsIs (w.setCell ⟨g, 3, none⟩ (.int .i64 (rk' : Int))) g b most rk' m L R vK vR KS RS S := by
  obtain ⟨D, hmD, hMD⟩ := h.map
  obtain ⟨n1, n2, n3, n4, n5, n6⟩ := h.ne
  have hf : Fr (fun k => k = g) w (w.setCell ⟨g, 3, none⟩ (.int .i64 (rk' : Int))) := Fr.setCell (p := ⟨g, 3, none⟩) _
  have hg := heap_setCell_same w g 3 _ _ (.int .i64 (rk' : Int)) h.head
  exact ⟨by rw [hg]; simp, own_fr h.rowK hf (fun k hk e => by subst e; exact n4 hk), h.keys.fr hf (fun k _ hw e => hw (.inl e)), ⟨D, map_fr hmD hf (fun e => n1 e.symm), hMD⟩, own_fr h.rowR hf (fun k hk e => by subst e; exact n5 hk),
    h.segs.fr hf (fun k _ hw e => hw (.inl e)), h.foot, fun k hk => by simpa using h.lt k hk, h.runs, h.nodup, h.bytes, h.few, h.most, hl⟩
set_option maxRecDepth 100000 in
set_option maxHeartbeats 4000000 in
theorem crank_any (g most : Nat) (L : List (List Int)) (S : Nat → Prop) (A : Option Addr) (n c : Nat) (key : List Int) (w : World)
    (hS : CSet w g most L S) (hn : n = key.length) (hk : Rd w w.heap.size A (key.map (Value.int .u8))) (hB : Cd.isB key) (hs : n ≤ 140737488351232) (hA : ∀ ad, 0 < key.length → A = some ad → ¬ S ad.block) :
    Calls Try.prog 14 #[.pointer (some ⟨g, 0, none⟩), .slice A n c] w (SetPost (fun w' S' => CSet w' g most L S') S (.int .i64 (Os.rk L key : Nat)) w) := by
  subst hn
  obtain ⟨b, r0, R0, vK, vR0, KS, RS0, h⟩ := hS
  obtain ⟨AK, cK, eK, hcK, hmK, hrK⟩ := h.sliceK
  have hfew := h.few
  have hgw := h.glt
  obtain ⟨w2, hw2⟩ : ∃ w2, w2 = (w.alloc (.cells #[.pointer (some ⟨g, 0, none⟩)] 23)).alloc (.cells #[.slice A key.length c] 25) := ⟨_, rfl⟩
  have hb2 : Below w.heap.size w w2 := by rw [hw2]; exact upA (upA (up0 w) _) _
  have hsz2 : w2.heap.size = w.heap.size + 2 := by rw [hw2]; simp
  have hbox1 : w2.cell? ⟨w.heap.size, 0, none⟩ = some (.pointer (some ⟨g, 0, none⟩)) := by
    rw [hw2, World.cell?_alloc_lt _ _ _ (by simp)]
    exact World.cell?_alloc_new _ _ _ 0
  have hbox2 : w2.cell? ⟨w.heap.size + 1, 0, none⟩ = some (.slice A key.length c) := by
    rw [hw2]
    simp
  have hlt := h.lt
  have h2 := h.up hb2
  have HW2 := Lib.hid hw2; have H2 := Lib.hid h2; have HLT := Lib.hid hlt; have HK := Lib.hid hk; have HB := Lib.hid hB; have HA := Lib.hid hA
  clear hw2 h2 hlt hk hB hA hrK h
  go_enter Try.func14, Try.ntmps14
  go_wp2_with fail
  have e2 := HW2.out
  rw [← e2]
  go_loopw [8] (fun _ wr => ∃ r, r ≤ L.length ∧ Ranking w2 wr g b most L vK KS S r) (fun _ wr => L.length - rkOf g wr)
  case atStart => exact ⟨r0, H2.out.rkle, R0, vR0, RS0, S, H2.out, Fr.refl _ _, fun k hk => .inl hk⟩
  case round =>
    obtain ⟨r, hrl, R, vR, RS, S', h, hF, hS'⟩ := hrel
    have c3 : wr.cell? ⟨g, 3, none⟩ = some (.int .i64 (r : Int)) := h.cell 3
    have c1 : wr.cell? ⟨g, 1, none⟩ = some (.slice AK L.length cK) := by rw [← eK]; exact h.cell 1
    have hn1 : ¬ S w.heap.size := fun e => by have := HLT.out _ e; omega
    have hn2 : ¬ S (w.heap.size + 1) := fun e => by have := HLT.out _ e; omega
    have x1 := hF.cell hbox1 hn1
    have x2 := hF.cell hbox2 hn2
    have hm1 : ¬ S' w.heap.size := fun e => by rcases hS' _ e with h1 | h1; exact hn1 h1; omega
    have hm2 : ¬ S' (w.heap.size + 1) := fun e => by rcases hS' _ e with h1 | h1; exact hn2 h1; omega
    have hgo := h.glt
    have hwz := hF.size
    have HO := Lib.hid h; have HF := Lib.hid hF; have HS' := Lib.hid hS'; have HM1 := Lib.hid hm1; have HM2 := Lib.hid hm2; have HN1 := Lib.hid hn1; have HN2 := Lib.hid hn2; have HRL := Lib.hid hrl
    clear h hF hS' hm1 hm2 hn1 hn2
    obtain ⟨wo, rfl⟩ : ∃ wo : World, wo = wr := ⟨_, rfl⟩
    by_cases hlt : r < L.length
    · have hlt' : (r : Int) < (L.length : Int) := by omega
      go_wp2_with fail
      refine wp_region_noPanic ?_
      refine wp_region_held_drew (S := fun w' => w'.cell? ⟨w.heap.size, 0, none⟩ = some (.pointer (some ⟨g, 0, none⟩)) ∧ w'.cell? ⟨g, 3, none⟩ = some (.int .i64 (r : Int)) ∧ w'.cell? ⟨g, 1, none⟩ = some (.slice AK L.length cK)) (by kernel_rfl) ?_ (fun hHeld => ?_)
      · exact ⟨x1, c3, c1⟩
      refine wpAnyH_take (i := 0) (oi := _) (v := ?_) rfl (by kernel_rfl) (by kernel_rfl) (by kernel_rfl) (fun _ _ _ h => h) (Or.inl ⟨by kernel_rfl, ?_⟩) (by assumption) ?_
      rotate_left
      · (intro w hSw; (try dsimp only at hSw); go_simp; try (with_reducible rfl))
      (try simp only [List.getElem_toArray, List.getElem_cons_succ, List.getElem_cons_zero, Act.put, List.setIfInBounds_toArray, List.set_cons_zero, List.set_cons_succ])
      refine wpAnyH_take (i := 1) (oi := _) (v := ?_) rfl (by kernel_rfl) (by kernel_rfl) (by kernel_rfl) (fun _ _ _ h => h) (Or.inl ⟨by kernel_rfl, ?_⟩) (by assumption) ?_
      rotate_left
      · (intro w hSw; (try dsimp only at hSw); go_simp; try (with_reducible rfl))
      (try simp only [List.getElem_toArray, List.getElem_cons_succ, List.getElem_cons_zero, Act.put, List.setIfInBounds_toArray, List.set_cons_zero, List.set_cons_succ])
      refine wpAnyH_take (i := 2) (oi := _) (v := ?_) rfl (by kernel_rfl) (by kernel_rfl) (by kernel_rfl) (fun _ _ _ h => h) (Or.inl ⟨by kernel_rfl, ?_⟩) (by assumption) ?_
      rotate_left
      · (intro w hSw; (try dsimp only at hSw); go_simp; try (with_reducible rfl))
      (try simp only [List.getElem_toArray, List.getElem_cons_succ, List.getElem_cons_zero, Act.put, List.setIfInBounds_toArray, List.set_cons_zero, List.set_cons_succ])
      refine wpAnyH_take (i := 3) (oi := _) (v := ?_) rfl (by kernel_rfl) (by kernel_rfl) (by kernel_rfl) (fun _ _ _ h => h) (Or.inl ⟨by kernel_rfl, ?_⟩) (by assumption) ?_
      rotate_left
      · (intro w hSw; (try dsimp only at hSw); go_simp; try (with_reducible rfl))
      (try simp only [List.getElem_toArray, List.getElem_cons_succ, List.getElem_cons_zero, Act.put, List.setIfInBounds_toArray, List.set_cons_zero, List.set_cons_succ])
      refine wpAnyH_take (i := 4) (oi := _) (v := ?_) rfl (by kernel_rfl) (by kernel_rfl) (by kernel_rfl) (fun _ _ _ h => h) (Or.inl ⟨by kernel_rfl, ?_⟩) (by assumption) ?_
      rotate_left
      · (intro w hSw; (try dsimp only at hSw); go_simp; try (with_reducible rfl))
      (try simp only [List.getElem_toArray, List.getElem_cons_succ, List.getElem_cons_zero, Act.put, List.setIfInBounds_toArray, List.set_cons_zero, List.set_cons_succ])
      refine wpAnyH_take (i := 5) (oi := _) (v := ?_) rfl (by kernel_rfl) (by kernel_rfl) (by kernel_rfl) (fun _ _ _ h => h) (Or.inl ⟨by kernel_rfl, ?_⟩) (by assumption) ?_
      rotate_left
      · (intro w hSw; (try dsimp only at hSw); go_simp; try (with_reducible rfl))
      (try simp only [List.getElem_toArray, List.getElem_cons_succ, List.getElem_cons_zero, Act.put, List.setIfInBounds_toArray, List.set_cons_zero, List.set_cons_succ])
      refine wpAnyH_take (i := 6) (oi := _) (v := ?_) rfl (by kernel_rfl) (by kernel_rfl) (by kernel_rfl) (fun _ _ _ h => h) (Or.inl ⟨by kernel_rfl, ?_⟩) (by assumption) ?_
      rotate_left
      · (intro w hSw; (try dsimp only at hSw); go_simp; try (with_reducible rfl))
      (try simp only [List.getElem_toArray, List.getElem_cons_succ, List.getElem_cons_zero, Act.put, List.setIfInBounds_toArray, List.set_cons_zero, List.set_cons_succ])
      refine wpAnyH_take (i := 7) (oi := _) (v := ?_) rfl (by kernel_rfl) (by kernel_rfl) (by kernel_rfl) (fun _ _ _ h => h) (Or.inl ⟨by kernel_rfl, ?_⟩) (by assumption) ?_
      rotate_left
      · (intro w hSw; (try dsimp only at hSw); go_simp; try (with_reducible rfl))
      (try simp only [List.getElem_toArray, List.getElem_cons_succ, List.getElem_cons_zero, Act.put, List.setIfInBounds_toArray, List.set_cons_zero, List.set_cons_succ])
      refine wpAnyH_take (i := 8) (oi := _) (v := ?_) rfl (by kernel_rfl) (by kernel_rfl) (by kernel_rfl) (fun _ _ _ h => h) (Or.inl ⟨by kernel_rfl, ?_⟩) (by assumption) ?_
      rotate_left
      · (intro w hSw; (try dsimp only at hSw); go_simp; try (with_reducible rfl))
      (try simp only [List.getElem_toArray, List.getElem_cons_succ, List.getElem_cons_zero, Act.put, List.setIfInBounds_toArray, List.set_cons_zero, List.set_cons_succ])
      refine wpAnyH_take (i := 9) (oi := _) (v := ?_) rfl (by kernel_rfl) (by kernel_rfl) (by kernel_rfl) (fun _ _ _ h => h) (Or.inl ⟨by kernel_rfl, ?_⟩) (by assumption) ?_
      rotate_left
      · (intro w hSw; (try dsimp only at hSw); go_simp; try (with_reducible rfl))
      (try simp only [List.getElem_toArray, List.getElem_cons_succ, List.getElem_cons_zero, Act.put, List.setIfInBounds_toArray, List.set_cons_zero, List.set_cons_succ])
      refine wpAnyH_done (by kernel_rfl) ?_ _
      refine NoPanic.normal ?_
      (try go_simp)
      go_wp2_with fail
      have hlit : Rd (wo.drew.drew.alloc (.cells #[.int .i64 (r : Int)] 3)) (wo.drew.drew.alloc (.cells #[.int .i64 (r : Int)] 3)).heap.size (some ⟨wo.heap.size, 0, none⟩) ((intsOf [r]).map (Value.int .i64)) := Rd.litG wo.drew.drew #[.int .i64 (r : Int)] 3 (0, 0) wo.heap.size rfl
      have hadd := addRun_any g b most r r (r + 1) L R vK vR KS RS S' (some ⟨wo.heap.size, 0, none⟩) 1 [r] (wo.drew.drew.alloc (.cells #[.int .i64 (r : Int)] 3)) (HO.out.up (upA (upD (up0 wo) 2) _)) hlit (by simp) (by simp [maxLen]) (srt_one L r) (perm_one HO.out.runs.perm) (by omega) (by simp) (fun ad _ e hw => by
        injection e with e
        subst e
        have := HO.out.lt _ (HO.out.foot _ hw)
        simp at this)
      have HADD := Lib.hid hadd
      clear hadd hlit
      refine wp_region_noPanic ?_
      refine wp_region_held_drew (S := fun w' => w'.cell? ⟨w.heap.size, 0, none⟩ = some (.pointer (some ⟨g, 0, none⟩)) ∧ w'.cell? ⟨g, 3, none⟩ = some (.int .i64 (r : Int))) (by kernel_rfl) ?_ (fun hHeld => ?_)
      · exact ⟨x1, c3⟩
      refine wpAnyH_take (i := 0) (oi := _) (v := ?_) rfl (by kernel_rfl) (by kernel_rfl) (by kernel_rfl) (fun _ _ _ h => h) (Or.inl ⟨by kernel_rfl, ?_⟩) (by assumption) ?_
      rotate_left
      · (intro w hSw; (try dsimp only at hSw); go_simp; try (with_reducible rfl))
      (try simp only [List.getElem_toArray, List.getElem_cons_succ, List.getElem_cons_zero, Act.put, List.setIfInBounds_toArray, List.set_cons_zero, List.set_cons_succ])
      refine wpAnyH_take (i := 1) (oi := _) (v := ?_) rfl (by kernel_rfl) (by kernel_rfl) (by kernel_rfl) (fun _ _ _ h => h) (Or.inl ⟨by kernel_rfl, ?_⟩) (by assumption) ?_
      rotate_left
      · (intro w hSw; (try dsimp only at hSw); go_simp; try (with_reducible rfl))
      (try simp only [List.getElem_toArray, List.getElem_cons_succ, List.getElem_cons_zero, Act.put, List.setIfInBounds_toArray, List.set_cons_zero, List.set_cons_succ])
      refine wpAnyH_take (i := 2) (oi := _) (v := ?_) rfl (by kernel_rfl) (by kernel_rfl) (by kernel_rfl) (fun _ _ _ h => h) (Or.inl ⟨by kernel_rfl, ?_⟩) (by assumption) ?_
      rotate_left
      · (intro w hSw; (try dsimp only at hSw); go_simp; try (with_reducible rfl))
      (try simp only [List.getElem_toArray, List.getElem_cons_succ, List.getElem_cons_zero, Act.put, List.setIfInBounds_toArray, List.set_cons_zero, List.set_cons_succ])
      refine wpAnyH_take (i := 3) (oi := _) (v := ?_) rfl (by kernel_rfl) (by kernel_rfl) (by kernel_rfl) (fun _ _ _ h => h) (Or.inl ⟨by kernel_rfl, ?_⟩) (by assumption) ?_
      rotate_left
      · (intro w hSw; (try dsimp only at hSw); go_simp; try (with_reducible rfl))
      (try simp only [List.getElem_toArray, List.getElem_cons_succ, List.getElem_cons_zero, Act.put, List.setIfInBounds_toArray, List.set_cons_zero, List.set_cons_succ])
      refine wpAnyH_take (i := 4) (oi := _) (v := ?_) rfl (by kernel_rfl) (by kernel_rfl) (by kernel_rfl) (fun _ _ _ h => h) (Or.inl ⟨by kernel_rfl, ?_⟩) (by assumption) ?_
      rotate_left
      · (intro w hSw; (try dsimp only at hSw); go_simp; try (with_reducible rfl))
      (try simp only [List.getElem_toArray, List.getElem_cons_succ, List.getElem_cons_zero, Act.put, List.setIfInBounds_toArray, List.set_cons_zero, List.set_cons_succ])
      refine wpAnyH_ready (rs := [5]) (by kernel_rfl) (by simp) ?_
      refine AllReadyH.cons (o := _) rfl (fun K hK => ?_) AllReadyH.nil
      go_simp
      first | refine hK.out _ _ ?_ (fun hHeld => ?_) | (go_wp2_with fail; refine hK.out _ _ ?_ (fun hHeld => ?_))
      · exact ⟨(World.cell?_alloc_lt _ _ _ (World.block_lt_of_cell? wo _ x1)).trans x1, (World.cell?_alloc_lt _ _ _ hgo).trans c3⟩
      clear hK K
      (try simp only [List.getElem_toArray, List.getElem_cons_succ, List.getElem_cons_zero, Act.put, List.setIfInBounds_toArray, List.set_cons_zero, List.set_cons_succ])
      refine wpAnyH_ready (rs := [6]) (by kernel_rfl) (by simp) ?_
      refine AllReadyH.cons (o := _) rfl (fun K hK => ?_) AllReadyH.nil
      go_simp
      go_at_call 20
      refine HADD.out.mono ?_
      rintro e w3 ⟨rfl, R', vR', RS', S'', h3, hF3, hS3⟩
      first | refine hK.out _ _ ?_ (fun hHeld => ?_) | (go_wp2_with fail; refine hK.out _ _ ?_ (fun hHeld => ?_))
      · exact ⟨hF3.cell ((World.cell?_alloc_lt _ _ _ (World.block_lt_of_cell? wo _ x1)).trans x1) HM1.out, h3.cell 3⟩
      clear hK K
      (try simp only [List.getElem_toArray, List.getElem_cons_succ, List.getElem_cons_zero, Act.put, List.setIfInBounds_toArray, List.set_cons_zero, List.set_cons_succ])
      refine wpAnyH_done (by kernel_rfl) ?_ _
      refine NoPanic.normal ?_
      (try go_simp)
      have y1 : w3.cell? ⟨w.heap.size, 0, none⟩ = some (.pointer (some ⟨g, 0, none⟩)) := hF3.cell ((World.cell?_alloc_lt _ _ _ (World.block_lt_of_cell? wo _ x1)).trans x1) HM1.out
      have y3 : w3.cell? ⟨g, 3, none⟩ = some (.int .i64 (r : Int)) := h3.cell 3
      have yf : w3.frozen? ⟨g, 3, none⟩ = false := frozen_of_row _ _ _ _ _ h3.head
      have hb3 := h3.bump (rk' := r + 1) (by omega)
      have H3 := Lib.hid hb3; have HF3 := Lib.hid hF3; have HS3 := Lib.hid hS3
      clear h3 hb3 hF3 hS3
      go_wp2_with fail
      go_round
      case measure =>
        have e1 : rkOf g (w3.setCell ⟨g, 3, none⟩ (.int .i64 ((r : Int) + 1))) = r + 1 := rkOf_eq (by
          have := H3.out.cell 3
          simpa using this)
        rw [e1, rkOf_eq c3]
        omega
      case rel =>
        refine ⟨r + 1, by omega, R', vR', RS', S'', by simpa using H3.out, ?_, ?_⟩
        · have q1 : Fr S w2 (wo.drew.drew.alloc (.cells #[.int .i64 (r : Int)] 3)) := HF.out.up (upA (upD (up0 wo) 2) _)
          have q2 : Fr S w2 w3 := q1.trans HF3.out (fun x hx => HS'.out x hx)
          exact q2.trans (Fr.setCell _) (fun x hx => (HS'.out x (by
            simp only at hx
            rw [hx]
            exact HO.out.gS)))
        · intro k hk
          rcases HS3.out k hk with h1 | ⟨ad, _, h1, h2⟩ | h1
          · exact HS'.out k h1
          · injection h1 with h1
            subst h1
            rw [h2]
            exact .inr hwz
          · exact .inr (by simp at h1; omega)
    · have hre : r = L.length := by have := HRL.out; omega
      subst hre
      obtain ⟨AR, cR, eR, hcR, hmR, hrR⟩ := HO.out.sliceR
      have c4 : wo.cell? ⟨g, 4, none⟩ = some (.slice AR R.length cR) := by rw [← eR]; exact HO.out.cell 4
      clear hrR hlt
      have hRlen : R.length ≤ 1000000 := by have := HO.out.runs.len; omega
      go_wp2_with fail
      refine wp_region_noPanic ?_
      refine wp_region_held_drew (S := fun w' => w'.cell? ⟨w.heap.size, 0, none⟩ = some (.pointer (some ⟨g, 0, none⟩)) ∧ w'.cell? ⟨g, 3, none⟩ = some (.int .i64 (L.length : Int)) ∧ w'.cell? ⟨g, 1, none⟩ = some (.slice AK L.length cK)) (by kernel_rfl) ?_ (fun hHeld => ?_)
      · exact ⟨x1, c3, c1⟩
      refine wpAnyH_take (i := 0) (oi := _) (v := ?_) rfl (by kernel_rfl) (by kernel_rfl) (by kernel_rfl) (fun _ _ _ h => h) (Or.inl ⟨by kernel_rfl, ?_⟩) (by assumption) ?_
      rotate_left
      · (intro w hSw; (try dsimp only at hSw); go_simp; try (with_reducible rfl))
      (try simp only [List.getElem_toArray, List.getElem_cons_succ, List.getElem_cons_zero, Act.put, List.setIfInBounds_toArray, List.set_cons_zero, List.set_cons_succ])
      refine wpAnyH_take (i := 1) (oi := _) (v := ?_) rfl (by kernel_rfl) (by kernel_rfl) (by kernel_rfl) (fun _ _ _ h => h) (Or.inl ⟨by kernel_rfl, ?_⟩) (by assumption) ?_
      rotate_left
      · (intro w hSw; (try dsimp only at hSw); go_simp; try (with_reducible rfl))
      (try simp only [List.getElem_toArray, List.getElem_cons_succ, List.getElem_cons_zero, Act.put, List.setIfInBounds_toArray, List.set_cons_zero, List.set_cons_succ])
      refine wpAnyH_take (i := 2) (oi := _) (v := ?_) rfl (by kernel_rfl) (by kernel_rfl) (by kernel_rfl) (fun _ _ _ h => h) (Or.inl ⟨by kernel_rfl, ?_⟩) (by assumption) ?_
      rotate_left
      · (intro w hSw; (try dsimp only at hSw); go_simp; try (with_reducible rfl))
      (try simp only [List.getElem_toArray, List.getElem_cons_succ, List.getElem_cons_zero, Act.put, List.setIfInBounds_toArray, List.set_cons_zero, List.set_cons_succ])
      refine wpAnyH_take (i := 3) (oi := _) (v := ?_) rfl (by kernel_rfl) (by kernel_rfl) (by kernel_rfl) (fun _ _ _ h => h) (Or.inl ⟨by kernel_rfl, ?_⟩) (by assumption) ?_
      rotate_left
      · (intro w hSw; (try dsimp only at hSw); go_simp; try (with_reducible rfl))
      (try simp only [List.getElem_toArray, List.getElem_cons_succ, List.getElem_cons_zero, Act.put, List.setIfInBounds_toArray, List.set_cons_zero, List.set_cons_succ])
      refine wpAnyH_take (i := 4) (oi := _) (v := ?_) rfl (by kernel_rfl) (by kernel_rfl) (by kernel_rfl) (fun _ _ _ h => h) (Or.inl ⟨by kernel_rfl, ?_⟩) (by assumption) ?_
      rotate_left
      · (intro w hSw; (try dsimp only at hSw); go_simp; try (with_reducible rfl))
      (try simp only [List.getElem_toArray, List.getElem_cons_succ, List.getElem_cons_zero, Act.put, List.setIfInBounds_toArray, List.set_cons_zero, List.set_cons_succ])
      refine wpAnyH_take (i := 5) (oi := _) (v := ?_) rfl (by kernel_rfl) (by kernel_rfl) (by kernel_rfl) (fun _ _ _ h => h) (Or.inl ⟨by kernel_rfl, ?_⟩) (by assumption) ?_
      rotate_left
      · (intro w hSw; (try dsimp only at hSw); go_simp; try (with_reducible rfl))
      (try simp only [List.getElem_toArray, List.getElem_cons_succ, List.getElem_cons_zero, Act.put, List.setIfInBounds_toArray, List.set_cons_zero, List.set_cons_succ])
      refine wpAnyH_take (i := 6) (oi := _) (v := ?_) rfl (by kernel_rfl) (by kernel_rfl) (by kernel_rfl) (fun _ _ _ h => h) (Or.inl ⟨by kernel_rfl, ?_⟩) (by assumption) ?_
      rotate_left
      · (intro w hSw; (try dsimp only at hSw); go_simp; try (with_reducible rfl))
      (try simp only [List.getElem_toArray, List.getElem_cons_succ, List.getElem_cons_zero, Act.put, List.setIfInBounds_toArray, List.set_cons_zero, List.set_cons_succ])
      refine wpAnyH_take (i := 7) (oi := _) (v := ?_) rfl (by kernel_rfl) (by kernel_rfl) (by kernel_rfl) (fun _ _ _ h => h) (Or.inl ⟨by kernel_rfl, ?_⟩) (by assumption) ?_
      rotate_left
      · (intro w hSw; (try dsimp only at hSw); go_simp; try (with_reducible rfl))
      (try simp only [List.getElem_toArray, List.getElem_cons_succ, List.getElem_cons_zero, Act.put, List.setIfInBounds_toArray, List.set_cons_zero, List.set_cons_succ])
      refine wpAnyH_take (i := 8) (oi := _) (v := ?_) rfl (by kernel_rfl) (by kernel_rfl) (by kernel_rfl) (fun _ _ _ h => h) (Or.inl ⟨by kernel_rfl, ?_⟩) (by assumption) ?_
      rotate_left
      · (intro w hSw; (try dsimp only at hSw); go_simp; try (with_reducible rfl))
      (try simp only [List.getElem_toArray, List.getElem_cons_succ, List.getElem_cons_zero, Act.put, List.setIfInBounds_toArray, List.set_cons_zero, List.set_cons_succ])
      refine wpAnyH_take (i := 9) (oi := _) (v := ?_) rfl (by kernel_rfl) (by kernel_rfl) (by kernel_rfl) (fun _ _ _ h => h) (Or.inl ⟨by kernel_rfl, ?_⟩) (by assumption) ?_
      rotate_left
      · (intro w hSw; (try dsimp only at hSw); go_simp; try (with_reducible rfl))
      (try simp only [List.getElem_toArray, List.getElem_cons_succ, List.getElem_cons_zero, Act.put, List.setIfInBounds_toArray, List.set_cons_zero, List.set_cons_succ])
      refine wpAnyH_done (by kernel_rfl) ?_ _
      refine NoPanic.normal ?_
      (try go_simp)
      go_wp2_with fail
      go_loopw [5, 37] (fun vn vk wr => ∃ k : Nat, k ≤ R.length ∧ vk = .int .i64 k ∧ vn = .int .i64 (((R.take k).map (Os.cut L key)).sum : Nat) ∧ Below wo.heap.size wo wr) (fun _ vk _ => R.length - (intOf vk).toNat)
      case atStart => exact ⟨0, by omega, rfl, by simp, (up0 wo).drew⟩
      case round =>
        obtain ⟨k, hkl, rfl, rfl, hbw⟩ := hrel
        obtain ⟨w5, rfl⟩ : ∃ w5 : World, w5 = wr := ⟨_, rfl⟩
        by_cases hlt : k < R.length
        · obtain ⟨aR, cR', A1, c5, eR', hcR', hcell, hrk, hlk, hmk, hin, hblk⟩ := (HO.out.up hbw).runAt hlt
          rw [eR] at eR'
          simp only [Value.slice.injEq, true_and] at eR'
          obtain ⟨rfl, rfl⟩ := eR'
          have b0 : (0 : Int) ≤ (k : Int) := by omega
          have b1 : (k : Int) < (R.length : Int) := by omega
          have htk : (List.map (Os.cut L key) (R.take (k + 1))).sum = (List.map (Os.cut L key) (R.take k)).sum + Os.cut L key (R.getD k []) := by
            rw [List.take_add_one, List.map_append, List.sum_append]
            simp [List.getD, hlt]
          have hcut := Os.cut_le L key (R.getD k [])
          have hrl9 : (R.getD k []).length ≤ 1000000 := by
            have h1 := HO.out.runs.perm.length_eq
            have h2 : (R.getD k []).Sublist R.flatten := List.sublist_flatten_of_mem hin
            have h3 := h2.length_le
            rw [List.length_range] at h1
            omega
          have HTK := Lib.hid htk; have HIN := Lib.hid hin; have HRK := Lib.hid hrk
          clear htk hin hrk hblk
          generalize R.getD k [] = rk1 at *
          have hkw : Rd w5 w5.heap.size A (key.map (Value.int .u8)) := ((HK.out.belowT hb2).fr0 HF.out (fun ad hn e => HA.out ad (by simpa using hn) e)).belowT hbw
          have hsr := HO.out.runs.sorted _ HIN.out
          have hsearch := search_any (.pointer (some ⟨w.heap.size, 0, none⟩)) (.pointer (some ⟨w5.heap.size, 0, none⟩)) (.pointer (some ⟨w.heap.size + 1, 0, none⟩)) (fun i => !Cd.lessB (Os.pk L rk1 i) key) rk1.length (w5.alloc (.cells #[.slice A1 rk1.length c5] 38)) hrl9
            (fun i j hij hj hp => by
              have hp' : Cd.lessB (Os.pk L rk1 i) key = false := by simpa using hp
              have := hsr.mono (fun x hx => (HO.out.bytes x hx).1) HB.out hij hj hp'
              simpa using this)
            (fun i q hi => closure_any w.heap.size w5.heap.size (w.heap.size + 1) g b most L.length L.length L R vK vR KS RS S' A1 A c5 key.length c i rk1 key _ (HO.out.up (upD (upA hbw _) q))
              (((World.cell?_alloc_lt _ _ _ (Nat.lt_of_lt_of_le (World.block_lt_of_cell? wo _ x1) hbw.size)).trans ((hbw.cell (World.block_lt_of_cell? wo _ x1)).trans x1))) (by simp)
              (((World.cell?_alloc_lt _ _ _ (Nat.lt_of_lt_of_le (World.block_lt_of_cell? wo _ x2) hbw.size)).trans ((hbw.cell (World.block_lt_of_cell? wo _ x2)).trans x2))) ((HRK.out.allocT _).drewT q) ((hkw.allocT _).drewT q) rfl hi (fun x hx => HO.out.runs.lt HIN.out hx) hrl9)
          have HSE := Lib.hid hsearch
          clear hsearch hkw hsr
          have hbn := upA hbw (.cells #[.slice A1 rk1.length c5] 38)
          have xx1 : w5.cell? ⟨w.heap.size, 0, none⟩ = some (.pointer (some ⟨g, 0, none⟩)) := (hbw.cell (World.block_lt_of_cell? wo _ x1)).trans x1
          have hsum : (List.map (Os.cut L key) (R.take k)).sum ≤ 1000000 := by
            have h1 := HO.out.runs.rk_eq key
            have h2 := Os.rk_le L key
            have h3 : (List.map (Os.cut L key) R).sum = (List.map (Os.cut L key) (R.take k)).sum + (List.map (Os.cut L key) (R.drop k)).sum := by
              rw [← List.sum_append, ← List.map_append, List.take_append_drop]
            omega
          generalize (List.map (Os.cut L key) (R.take k)).sum = sm at *
          go_wp2_with (go_at_call 21; refine HSE.out.mono ?_; rintro e w6 ⟨kk, hkk, f1, f2, rfl, q, rfl⟩; have hcc : Os.cut L key rk1 = kk := Os.cut_of hkk (fun i hi => by simpa using f1 i hi) (fun i hi hl => by simpa using f2 i hi hl); clear f1 f2)
          go_round
          case measure => simp [intOf]; omega
          case rel => exact ⟨k + 1, by omega, by go_num, by rw [HTK.out, hcc]; simp, upD hbn q⟩
        · have hke : k = R.length := by omega
          have hv : (List.map (Os.cut L key) (R.take k)).sum = Os.rk L key := by rw [hke, List.take_length, ← HO.out.runs.rk_eq]
          have HV := Lib.hid hv
          clear hv
          generalize (List.map (Os.cut L key) (R.take k)).sum = sm at *
          go_wp2_with fail
          go_ret
          have := HV.out
          subst this
          exact ⟨rfl, S', ⟨b, L.length, R, vK, vR, KS, RS, HO.out.up hbw⟩, ((Fr.of_below hb2).trans HF.out (fun x hx => .inl hx)).up hbw, fun k hk => (HS'.out k hk).imp id (fun h => by omega)⟩
end Go.Proofs.Ytlmchkajlecmeaa
