/- strings.Lines: its iterator yields a text's lines, each with its line feed. -/
import Derived.Test.YtmghklokbmdenaaDoorRgIn
import Derived.Test.YtmghklokbmdenaaDoorPgShelf
import Derived.Test.YtmghklokbmdenaaDoorMgPb
import Derived.Test.YtmghklokbmdenaaDoorHeldS
import Derived.Deep.RegionHeld3
import Derived.LoopIn
import Derived.LoopNIn
set_option linter.unusedVariables false
set_option linter.unusedSimpArgs false
namespace Go.Proofs.YtmghklokbmdenaaDoor
open Go.RowKit
attribute [local go_sem] Oper.semAt_some
namespace Pg
/-- a text's lines with their line feeds -/
def raws : List UInt8 → List (List UInt8)
  | [] => []
  | b :: l => if b = 10 then [b] :: raws l else match raws l with
    | [] => [[b]]
    | x :: r => (b :: x) :: r
theorem raws_app : ∀ (x l : List UInt8), (∀ b ∈ x, b ≠ 10) → raws (x ++ 10 :: l) = (x ++ [10]) :: raws l
  | [], l, _ => by simp [raws]
  | b :: x, l, h => by
    have hb : b ≠ 10 := h b (by simp)
    have := raws_app x l (fun c hc => h c (by simp [hc]))
    rw [List.cons_append, raws, if_neg hb, this]
    rfl
theorem raws_end : ∀ (x : List UInt8), (∀ b ∈ x, b ≠ 10) → x ≠ [] → raws x = [x]
  | [], _, h => absurd rfl h
  | [b], h, _ => by
    have hb : b ≠ 10 := h b (by simp)
    simp [raws, hb]
  | b :: c :: x, h, _ => by
    have hb : b ≠ 10 := h b (by simp)
    have := raws_end (c :: x) (fun y hy => h y (by simp [hy])) (by simp)
    rw [raws, if_neg hb, this]
/-- the bytes up to the first line feed, and what is behind it -/
theorem cut_at : ∀ (l : List UInt8), (∃ x r, l = x ++ 10 :: r ∧ (∀ b ∈ x, b ≠ 10) ∧ Lib.indexByte l 10 = (x.length : Int)) ∨ ((∀ b ∈ l, b ≠ 10) ∧ Lib.indexByte l 10 = -1)
  | [] => .inr ⟨(fun b hb => by cases hb), rfl⟩
  | b :: l => by
    by_cases hb : b = 10
    · subst hb
      exact .inl ⟨[], l, rfl, (fun b hb => by cases hb), by simp [Lib.indexByte]⟩
    · rcases cut_at l with ⟨x, r, h1, h2, h3⟩ | ⟨h1, h2⟩
      · refine .inl ⟨b :: x, r, by rw [h1]; rfl, fun c hc => ?_, ?_⟩
        · rcases List.mem_cons.1 hc with rfl | hc
          · exact hb
          · exact h2 c hc
        · simp only [Lib.indexByte, h3, List.length_cons]
          simp [hb]
          try omega
      · refine .inr ⟨fun c hc => ?_, ?_⟩
        · rcases List.mem_cons.1 hc with rfl | hc
          · exact hb
          · exact h1 c hc
        · simp [Lib.indexByte, h2, hb]
theorem raws_ne {l : List UInt8} (h : l ≠ []) : raws l ≠ [] := by
  cases l with
  | nil => exact absurd rfl h
  | cons b l =>
    unfold raws
    split
    · simp
    · split <;> simp
/-- the first line with its feed, and what is behind it -/
def headL (l : List UInt8) : List UInt8 := (raws l).headD []
def tailL (l : List UInt8) : List UInt8 := l.drop (headL l).length
theorem head_cut {x r : List UInt8} (h : ∀ b ∈ x, b ≠ 10) : headL (x ++ 10 :: r) = x ++ [10] ∧ tailL (x ++ 10 :: r) = r := by
  have h1 : headL (x ++ 10 :: r) = x ++ [10] := by unfold headL; rw [raws_app x r h]; rfl
  refine ⟨h1, ?_⟩
  unfold tailL
  rw [h1, show x ++ 10 :: r = (x ++ [10]) ++ r by simp, List.drop_left]
theorem head_end {x : List UInt8} (h : ∀ b ∈ x, b ≠ 10) (hx : x ≠ []) : headL x = x ∧ tailL x = [] := by
  have h1 : headL x = x := by unfold headL; rw [raws_end x h hx]; rfl
  refine ⟨h1, ?_⟩
  unfold tailL
  rw [h1, List.drop_length]
theorem raws_step {l : List UInt8} (h : l ≠ []) : raws l = headL l :: raws (tailL l) ∧ 1 ≤ (headL l).length := by
  rcases cut_at l with ⟨x, r, h1, h2, _⟩ | ⟨h1, _⟩
  · subst h1
    obtain ⟨e1, e2⟩ := head_cut (r := r) h2
    rw [e1, e2, raws_app x r h2]
    exact ⟨rfl, by simp⟩
  · obtain ⟨e1, e2⟩ := head_end h1 h
    rw [e1, e2, raws_end l h1 h]
    refine ⟨rfl, ?_⟩
    cases l with
    | nil => exact absurd rfl h
    | cons a l => simp
def restK : Nat → List UInt8 → List UInt8
  | 0, l => l
  | k + 1, l => tailL (restK k l)
theorem raws_rest (d : List UInt8) : ∀ k, k ≤ (raws d).length → raws (restK k d) = (raws d).drop k
  | 0, _ => rfl
  | k + 1, h => by
    have ih := raws_rest d k (by omega)
    have hne : restK k d ≠ [] := fun e => by
      rw [e] at ih
      have : ((raws d).drop k).length = 0 := by rw [← ih]; rfl
      rw [List.length_drop] at this
      omega
    have := (raws_step hne).1
    rw [ih] at this
    show raws (tailL (restK k d)) = _
    have e2 : (raws d).drop (k + 1) = ((raws d).drop k).tail := by rw [List.tail_drop]
    rw [e2, this, List.tail_cons]
theorem rest_ne {d : List UInt8} {k : Nat} (hk : k ≤ (raws d).length) : restK k d ≠ [] ↔ k < (raws d).length := by
  have h := raws_rest d k hk
  constructor
  · intro hne
    have := raws_ne hne
    rw [h] at this
    rcases Nat.lt_or_ge k (raws d).length with h1 | h1
    · exact h1
    · exact absurd (List.drop_eq_nil_of_le h1) this
  · intro hlt e
    rw [e] at h
    have : ((raws d).drop k).length = 0 := by rw [← h]; rfl
    rw [List.length_drop] at this
    omega
theorem rest_len (d : List UInt8) : ∀ k, (restK k d).length ≤ d.length
  | 0 => Nat.le_refl _
  | k + 1 => by
    have := rest_len d k
    show (tailL (restK k d)).length ≤ _
    unfold tailL
    rw [List.length_drop]
    omega
end Pg
abbrev bstr (l : List UInt8) : Value := .string ⟨l.toArray⟩
/-- the iterator's own cell is written -/
def Upd (Bs : Nat) (r : List UInt8) (W W2 : World) : Prop := ∃ q, W2 = (W.setCell ⟨Bs, 0, none⟩ (bstr r)).drewN q
def cellSz (Bs : Nat) (w : World) : Nat := match w.cell? ⟨Bs, 0, none⟩ with | some (.string s) => s.size | _ => 0
theorem cellSz_eq {Bs : Nat} {w : World} {l : List UInt8} (h : w.cell? ⟨Bs, 0, none⟩ = some (bstr l)) : cellSz Bs w = l.length := by unfold cellSz; rw [h]; rfl
set_option maxRecDepth 100000 in
set_option maxHeartbeats 8000000 in
theorem lines_iter (n : Nat) (d : List UInt8) (hd : d.length ≤ 1000000) (Bs : Nat) (J : Nat → World → Prop) (Jx : World → Prop) (l : Nat)
    (hJ : ∀ k W, J k W → W.heap[Bs]? = some (.cells #[bstr (Pg.restK k d)] 9 (0, 0)))
    (hY : ∀ k W W2, J k W → k < (Pg.raws d).length → Upd Bs (Pg.restK (k + 1) d) W W2 → YieldAt Fence.wide (n - 1) Tryd.prog l #[bstr (Pg.headL (Pg.restK k d))] W2 fun e W' => (e = .returned (.bool true) ∧ J (k + 1) W') ∨ (e = .returned (.bool false) ∧ Jx W'))
    (W : World) (h0 : J 0 W) : CallsIn Fence.wide n Tryd.prog 19 #[.func (.yield l) #[] #[], .pointer (some ⟨Bs, 0, none⟩)] W fun e W' => (∃ v, e = .returned v) ∧ (J (Pg.raws d).length W' ∨ Jx W') := by
  refine callsIn_of_wp Tryd.func19 rfl trivial ?_ rfl
  simp only [Tryd.ntmps19, List.size_toArray, List.length_cons, List.length_nil, Nat.reduceAdd, Nat.reduceSub, Array.replicate_succ, Array.replicate_zero, List.push_toArray, List.append_toArray, List.nil_append, List.cons_append]
  gi_wp2
  gi_loopw [3, 4] (fun (p4 p5 : Value) wr => ∃ k, k ≤ (Pg.raws d).length ∧ J k wr) (fun (p4 p5 : Value) wr => cellSz Bs wr)
  case atStart => exact ⟨0, Nat.zero_le _, h0⟩
  case round =>
    obtain ⟨k, hk, hJk⟩ := hrel
    have hb := hJ k wr hJk
    have hyk := fun W2 h1 h2 => hY k wr W2 hJk h1 h2
    have hlen := Pg.rest_len d k
    have hne := Pg.rest_ne hk
    have hJ1 := fun W' h => hJ (k + 1) W' h
    rw [show Pg.restK (k + 1) d = Pg.tailL (Pg.restK k d) from rfl] at hyk hJ1
    generalize Pg.restK k d = r at *
    have hc : wr.cell? ⟨Bs, 0, none⟩ = some (bstr r) := cell_of_row _ _ 0 _ _ _ hb
    have hf : wr.frozen? ⟨Bs, 0, none⟩ = false := frozen_of_row _ _ _ _ _ hb
    have hm0 : cellSz Bs wr = r.length := cellSz_eq hc
    have HY := Lib.hid hyk; have HJ1 := Lib.hid hJ1; have HNE := Lib.hid hne; have HJK := Lib.hid hJk
    clear hY hJ hyk hJ1 hne hJk hb h0
    by_cases hr0 : r = []
    · subst hr0
      have hkk : k = (Pg.raws d).length := by
        have := HNE.out
        rcases Nat.lt_or_ge k (Pg.raws d).length with h1 | h1
        · exact absurd rfl (this.2 h1)
        · omega
      have hc : wr.cell? ⟨Bs, 0, none⟩ = some (.string ⟨#[]⟩) := hc
      gi_wp2
      go_end0
      exact ⟨⟨_, rfl⟩, .inl (by rw [← hkk]; exact HJK.out)⟩
    · have hk1 : k < (Pg.raws d).length := HNE.out.1 hr0
      have hr1 : 1 ≤ r.length := by
        cases r with
        | nil => exact absurd rfl hr0
        | cons a l => simp
      have hsz : (⟨r.toArray⟩ : ByteArray).size = r.length := by simp [ByteArray.size]
      rcases Pg.cut_at r with ⟨x, r2, hx, hno, hidx⟩ | ⟨hno, hidx⟩
      · have hIx : ∀ w, Calls Tryd.prog 20 #[bstr r, .int .u8 10] w (fun e w' => e = .returned (.int .i64 (x.length : Int)) ∧ w' = w) := fun w => by
          have := Tryd.strings_IndexByte ⟨r.toArray⟩ 10 w
          rwa [show Lib.indexByte (⟨r.toArray⟩ : ByteArray).data.toList (10 : Int).toNat.toUInt8 = (x.length : Int) from hidx] at this
        have hxl : x.length + 1 ≤ r.length := by rw [hx]; simp
        have hw1 : IntKind.i64.wrap ((x.length : Int) + 1) = (x.length : Int) + 1 := IntWalk.i64_in _ (by omega)
        obtain ⟨e1, e2⟩ := Pg.head_cut (r := r2) hno
        rw [← hx] at e1 e2
        have h01 : (0 : Int) ≤ (x.length : Int) + 1 := by omega
        have h02 : (x.length : Int) + 1 ≤ (r.length : Int) := by omega
        have he1 : (⟨r.toArray⟩ : ByteArray).extract 0 (x.length + 1) = ⟨(Pg.headL r).toArray⟩ := by
          apply ByteArray.ext; apply Array.ext'
          rw [e1, ByteArray.data_extract]
          simp [hx, List.take_append, List.take_of_length_le]
        have he2 : (⟨r.toArray⟩ : ByteArray).extract (x.length + 1) r.length = ⟨(Pg.tailL r).toArray⟩ := by
          apply ByteArray.ext; apply Array.ext'
          rw [e2, ByteArray.data_extract]
          simp only [hx, Array.toList_extract, List.extract_eq_take_drop, List.length_append, List.length_cons]
          rw [show x ++ 10 :: r2 = (x ++ [10]) ++ r2 by simp, List.drop_append_of_le_length (by simp), List.drop_of_length_le (by simp), List.nil_append, List.take_of_length_le (by omega)]
        have htl : (Pg.tailL r).length < r.length := by rw [e2, hx]; simp; omega
        clear e1 e2
        generalize hs : (⟨r.toArray⟩ : ByteArray) = s at *
        have hsp : 0 < s.size := by omega
        have HIX := Lib.hid hIx; have HX := Lib.hid hx
        clear hIx hx
        gi_wp2_with (refine ⟨trivial, fun h => absurd h (by simp [Fence.wide]), ?_⟩; show CallsIn _ _ _ 20 _ _ _; refine (callsIn_wide.2 (HIX.out _)).mono ?_; rintro e w4 ⟨rfl, rfl⟩)
        refine wpIn_wide.2 ?_
        have hmx : Tryd.prog.follows .mixedOrders = true := by kernel_rfl
        refine wp_region_noPanic ?_
        refine wp_region_till 9 (fun w' => w'.cell? ⟨Bs, 0, none⟩ = some (bstr r)) (by kernel_rfl) ?_ (fun hHeld => ?_)
        · exact hc
        refine wpTill_take (i := 0) (oi := _) (v := ?_) rfl (by kernel_rfl) (by kernel_rfl) (by kernel_rfl) (fun _ _ _ h => h) (by kernel_rfl) (by kernel_rfl) (Or.inl ⟨by kernel_rfl, ?_⟩) (by assumption) ?_
        rotate_left
        · (intro w hSw; (try dsimp only at hSw); go_simp; (try with_reducible rfl))
        (try simp only [List.getElem_toArray, List.getElem_cons_succ, List.getElem_cons_zero, Act.put, List.setIfInBounds_toArray, List.set_cons_zero, List.set_cons_succ])
        refine wpTill_take (i := 1) (oi := _) (v := ?_) rfl (by kernel_rfl) (by kernel_rfl) (by kernel_rfl) (fun _ _ _ h => h) (by kernel_rfl) (by kernel_rfl) (Or.inl ⟨by kernel_rfl, ?_⟩) (by assumption) ?_
        rotate_left
        · (intro w hSw; (try dsimp only at hSw); go_simp; (try with_reducible rfl))
        (try simp only [List.getElem_toArray, List.getElem_cons_succ, List.getElem_cons_zero, Act.put, List.setIfInBounds_toArray, List.set_cons_zero, List.set_cons_succ])
        refine wpTill_take (i := 2) (oi := _) (v := ?_) rfl (by kernel_rfl) (by kernel_rfl) (by kernel_rfl) (fun _ _ _ h => h) (by kernel_rfl) (by kernel_rfl) (Or.inl ⟨by kernel_rfl, ?_⟩) (by assumption) ?_
        rotate_left
        · (intro w hSw; (try dsimp only at hSw); go_simp; (try with_reducible rfl))
        (try simp only [List.getElem_toArray, List.getElem_cons_succ, List.getElem_cons_zero, Act.put, List.setIfInBounds_toArray, List.set_cons_zero, List.set_cons_succ])
        refine wpTill_take (i := 3) (oi := _) (v := ?_) rfl (by kernel_rfl) (by kernel_rfl) (by kernel_rfl) (fun _ _ _ h => h) (by kernel_rfl) (by kernel_rfl) (Or.inl ⟨by kernel_rfl, ?_⟩) (by assumption) ?_
        rotate_left
        · (intro w hSw; (try dsimp only at hSw); go_simp; (try with_reducible rfl))
        (try simp only [List.getElem_toArray, List.getElem_cons_succ, List.getElem_cons_zero, Act.put, List.setIfInBounds_toArray, List.set_cons_zero, List.set_cons_succ])
        refine wpTill_take (i := 4) (oi := _) (v := ?_) rfl (by kernel_rfl) (by kernel_rfl) (by kernel_rfl) (fun _ _ _ h => h) (by kernel_rfl) (by kernel_rfl) (Or.inl ⟨by kernel_rfl, ?_⟩) (by assumption) ?_
        rotate_left
        · (intro w hSw; (try dsimp only at hSw); go_simp; (try with_reducible rfl))
        (try simp only [List.getElem_toArray, List.getElem_cons_succ, List.getElem_cons_zero, Act.put, List.setIfInBounds_toArray, List.set_cons_zero, List.set_cons_succ])
        refine wpTill_take (i := 5) (oi := _) (v := ?_) rfl (by kernel_rfl) (by kernel_rfl) (by kernel_rfl) (fun _ _ _ h => h) (by kernel_rfl) (by kernel_rfl) (Or.inl ⟨by kernel_rfl, ?_⟩) (by assumption) ?_
        rotate_left
        · (intro w hSw; (try dsimp only at hSw); go_simp; (try with_reducible rfl))
        (try simp only [List.getElem_toArray, List.getElem_cons_succ, List.getElem_cons_zero, Act.put, List.setIfInBounds_toArray, List.set_cons_zero, List.set_cons_succ])
        refine wpTill_take (i := 6) (oi := _) (v := ?_) rfl (by kernel_rfl) (by kernel_rfl) (by kernel_rfl) (fun _ _ _ h => h) (by kernel_rfl) (by kernel_rfl) (Or.inl ⟨by kernel_rfl, ?_⟩) (by assumption) ?_
        rotate_left
        · (intro w hSw; (try dsimp only at hSw); go_simp; (try with_reducible rfl))
        (try simp only [List.getElem_toArray, List.getElem_cons_succ, List.getElem_cons_zero, Act.put, List.setIfInBounds_toArray, List.set_cons_zero, List.set_cons_succ])
        refine wpTill_take (i := 7) (oi := _) (v := ?_) rfl (by kernel_rfl) (by kernel_rfl) (by kernel_rfl) (fun _ _ _ h => h) (by kernel_rfl) (by kernel_rfl) (Or.inl ⟨by kernel_rfl, ?_⟩) (by assumption) ?_
        rotate_left
        · (intro w hSw; (try dsimp only at hSw); go_simp; (try with_reducible rfl))
        (try simp only [List.getElem_toArray, List.getElem_cons_succ, List.getElem_cons_zero, Act.put, List.setIfInBounds_toArray, List.set_cons_zero, List.set_cons_succ])
        refine wpTill_take (i := 8) (oi := _) (v := ?_) rfl (by kernel_rfl) (by kernel_rfl) (by kernel_rfl) (fun _ _ _ h => h) (by kernel_rfl) (by kernel_rfl) (Or.inl ⟨by kernel_rfl, ?_⟩) (by assumption) ?_
        rotate_left
        · (intro w hSw; (try dsimp only at hSw); go_simp; (try with_reducible rfl))
        (try simp only [List.getElem_toArray, List.getElem_cons_succ, List.getElem_cons_zero, Act.put, List.setIfInBounds_toArray, List.set_cons_zero, List.set_cons_succ])
        refine wpTill_one (i := 9) (o := _) (by kernel_rfl) rfl (fun K hK => ?_)
        go_simp
        refine hK.out _ _ (fun h => absurd h (by simp)) (fun hHeld => ?_)
        clear hK K
        (try simp only [List.getElem_toArray, List.getElem_cons_succ, List.getElem_cons_zero, Act.put, List.setIfInBounds_toArray, List.set_cons_zero, List.set_cons_succ])
        refine wpTill_done (by kernel_rfl) ?_ _
        refine NoPanic.normal ?_
        (try go_simp)
        have hup : Upd Bs (Pg.tailL r) w4 ((w4.setCell ⟨Bs, 0, none⟩ (.string ⟨(Pg.tailL r).toArray⟩)).drew) := ⟨1, rfl⟩
        obtain ⟨fn, tmps, asg, bdy, hy, hR⟩ := HY.out _ hk1 hup
        have hy : (Instr.yield l #[.string ⟨(Pg.headL r).toArray⟩]).run Tryd.prog ((w4.setCell ⟨Bs, 0, none⟩ (.string ⟨(Pg.tailL r).toArray⟩)).drew) = .ok (.round l fn tmps asg bdy) ((w4.setCell ⟨Bs, 0, none⟩ (.string ⟨(Pg.tailL r).toArray⟩)).drew) := hy
        clear hup
        gi_wp2
        refine ⟨fun h => absurd h (by simp [Fence.wide]), ?_⟩
        refine hR.mono ?_
        rintro e W3 (⟨rfl, hJ3⟩ | ⟨rfl, hx3⟩)
        · have hc3 : W3.cell? ⟨Bs, 0, none⟩ = some (bstr (Pg.tailL r)) := cell_of_row _ _ 0 _ _ _ (HJ1.out _ hJ3)
          gi_wp2
          go_roundw
          case rel => exact ⟨k + 1, hk1, hJ3⟩
          case measure => rw [cellSz_eq hc3, hm0]; exact htl
        · gi_wp2
          refine bodyPost_ret (results_none rfl _ _ _) rfl ?_
          exact ⟨⟨_, rfl⟩, .inr hx3⟩
      · obtain ⟨e1, e2⟩ := Pg.head_end hno hr0
        have hIx : ∀ w, Calls Tryd.prog 20 #[bstr r, .int .u8 10] w (fun e w' => e = .returned (.int .i64 (-1)) ∧ w' = w) := fun w => by
          have := Tryd.strings_IndexByte ⟨r.toArray⟩ 10 w
          rwa [show Lib.indexByte (⟨r.toArray⟩ : ByteArray).data.toList (10 : Int).toNat.toUInt8 = -1 from hidx] at this
        have HIX := Lib.hid hIx
        have htl : (Pg.tailL r).length < r.length := by rw [e2]; simp; omega
        have hup : Upd Bs (Pg.tailL r) wr (wr.setCell ⟨Bs, 0, none⟩ (.string ⟨#[]⟩)) := ⟨0, by rw [e2]; rfl⟩
        obtain ⟨fn, tmps, asg, bdy, hy, hR⟩ := HY.out _ hk1 hup
        have hy : (Instr.yield l #[bstr r]).run Tryd.prog (wr.setCell ⟨Bs, 0, none⟩ (.string ⟨#[]⟩)) = .ok (.round l fn tmps asg bdy) (wr.setCell ⟨Bs, 0, none⟩ (.string ⟨#[]⟩)) := by rw [e1] at hy; exact hy
        clear hup hIx e1 e2
        gi_wp2_with (refine ⟨trivial, fun h => absurd h (by simp [Fence.wide]), ?_⟩; show CallsIn _ _ _ 20 _ _ _; refine (callsIn_wide.2 (HIX.out _)).mono ?_; rintro e w4 ⟨rfl, rfl⟩)
        refine ⟨fun h => absurd h (by simp [Fence.wide]), ?_⟩
        refine hR.mono ?_
        rintro e W3 (⟨rfl, hJ3⟩ | ⟨rfl, hx3⟩)
        · have hc3 : W3.cell? ⟨Bs, 0, none⟩ = some (bstr (Pg.tailL r)) := cell_of_row _ _ 0 _ _ _ (HJ1.out _ hJ3)
          gi_wp2
          go_roundw
          case rel => exact ⟨k + 1, hk1, hJ3⟩
          case measure => rw [cellSz_eq hc3, hm0]; exact htl
        · gi_wp2
          refine bodyPost_ret (results_none rfl _ _ _) rfl ?_
          exact ⟨⟨_, rfl⟩, .inr hx3⟩
end Go.Proofs.YtmghklokbmdenaaDoor
