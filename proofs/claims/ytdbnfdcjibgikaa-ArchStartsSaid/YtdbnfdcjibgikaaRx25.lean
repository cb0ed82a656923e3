/- A variable that from here on is only read; contracts of the elder kind, taken over. -/
import Derived.Test.YtdbnfdcjibgikaaRx24
import Derived.Test.YtdbnfdcjibgikaaMem
set_option linter.unusedVariables false
set_option linter.unusedSimpArgs false
namespace Go.Proofs.Ytdbnfdcjibgikaa.Rx
open Go.RowKit
/-- what slot t names is only read from here on -/
def frzS (t : Nat) (s : St) : St := ⟨fun k => bif Nat.beq k t then frz s.heap (s.env t) else s.env k, frzIds s.heap (idsF (s.env t)), s.next⟩
def vcZ (t : Nat) (I : Sm) (r : List (Nat × Nat)) (I' : Sm) : Prop :=
  match leS r (frzS t I.st) I' with
  | some ps => allP ps
  | none => False
section
variable {P : Program}
theorem Ok.freeze {nt : Nat} {c : Code} {I I' : Sm} {r : List (Nat × Nat)} {x : X} {J : St} {t : Nat} (hv : Vc (vcZ t I r I')) (h : Ok P nt c I'.st x J) : Ok P nt c I.st x J := by
  replace hv := hv.out
  unfold vcZ at hv
  split at hv
  · rename_i ps hps
    intro cx a hs Q hQ
    obtain ⟨cx1, e1, hc1, hs1, e2, e3, e4, e5⟩ := frzIds_ok (idsF (I.st.env t)) hs.c
    have hz : SRep cx1 (frzS t I.st) a nt := by
      refine ⟨by rw [e1, hs.H]; rfl, hc1, fun k => ?_, fun i hi => ?_, hs.sz, hs.df⟩
      · show Rep cx1 (bif Nat.beq k t then frz I.st.heap (I.st.env t) else I.st.env k) _
        cases hk : Nat.beq k t with
        | true =>
          obtain rfl := Nat.eq_of_beq_eq_true hk
          exact .pure (frz_rep hc1 (fun id b hb => by rw [e1, hs.H]; exact frzIds_gen _ _ _ _ hb) ((hs.env k).stab hs.c hs1) fun id hid b g c hb hg => by
            obtain ⟨b', hb'⟩ := Option.isSome_iff_exists.1 (e5 id (by rw [hb]; rfl))
            rw [e3] at hg
            exact e4 id b' g c hid hb' hg)
        | false => exact (hs.env k).stab hs.c hs1
      · have : (cx1.H i).isSome = true := by rw [e1, hs.H]; exact hi
        have := e5 i this
        rw [hs.H] at this
        exact hs.lt i this
    obtain ⟨cx2, hs2, he2, hw2⟩ := hz.le hps fun p hp => allP_mem hv p hp
    rw [← e2, ← hw2]
    exact h cx2 a hs2 Q fun cx3 a3 hs3 he3 => hQ cx3 a3 hs3 ((hs1.ext.trans he2).trans he3)
  · cases hv
/-- a row of numbers that is handed in -/
theorem RepP.ints {w : World} {R : Nat → Prop} {k : IntKind} {n : Nat} {f : Nat → Nat → AV} {v : Value} {l : List Int} (h : RepP w R (.row 1 n f) v) (hR : ∀ g, R g → g < w.heap.size) (hn : n = l.length) (hf : ∀ i, i < n → f i 0 = .int k (l.getD i 0)) :
    ∃ A c, v = .slice A l.length c ∧ l.length ≤ c ∧ c ≤ maxLen ∧ Rd w w.heap.size A (l.map (Value.int k)) := by
  subst hn
  cases h with
  | row A cap u hn hc hA h1 hu =>
    refine ⟨A, cap, rfl, hn, hc, fun hl => ?_⟩
    rw [List.length_map] at hl
    obtain ⟨g, o, rfl, hg, hcell⟩ := hA (by omega)
    refine ⟨⟨g, o, none⟩, rfl, hR g hg, fun j x hx => ?_⟩
    have hj : j < l.length := by
      have := (List.getElem?_eq_some_iff.1 hx).1
      simpa using this
    have h2 := hu j hj 0 (by omega)
    rw [hf j hj] at h2
    have h3 : u j 0 = .int k (l.getD j 0) := by
      generalize u j 0 = z at h2
      cases h2; rfl
    have h4 := hcell j hj 0 (by omega)
    rw [h3] at h4
    rw [List.getElem?_map, List.getElem?_eq_getElem hj, Option.map_some, Option.some.injEq] at hx
    rw [← hx, show Addr.add ⟨g, o, none⟩ j = ⟨g, o + j, none⟩ from adr_mk g o j]
    rw [show o + (j * 1 + 0) = o + j by omega] at h4
    rw [h4]
    simp [List.getD, hj]
/-- a contract of the elder kind: a row of the call's own -/
theorem PureC.ofOwn {f : FuncId} {args : List AV} {t : TypeId} {k : IntKind} {l : List Int} {n : Nat} {g : Nat → Nat → AV} (hn : n = l.length) (hg : ∀ i, i < n → g i 0 = .int k (l.getD i 0))
    (h : ∀ (w : World) (R : Nat → Prop) (vs : Array Value), (∀ g, R g → g < w.heap.size) → args.length = vs.size → (∀ (j : Nat) a v, args[j]? = some a → vs[j]? = some v → RepP w R a v) → Calls P f vs w (RetOwn w.heap.size t (l.map (Value.int k)) w)) :
    PureC P f args (.own 0 0 1 0 n) [⟨0, false, t, .rows 1 n g⟩] := by
  subst hn
  intro w R vs hR hl ha
  refine (h w R vs hR hl ha).mono ?_
  rintro e w' ⟨v, rfl, hown, hb⟩
  have hlen : (l.map (Value.int k)).length = l.length := List.length_map _
  have hR' : ∀ g, R g → g < w'.heap.size := fun g hg => Nat.lt_of_lt_of_le (hR g hg) hb.size
  rcases hown.2 with ⟨rfl, h0⟩ | ⟨gg, cap, cur, rfl, hge, hh, hnc, hcm, hsz, htk⟩
  · rw [hlen] at h0
    refine ⟨_, ⟨w', R, fun _ => none, fun i => [(⟨0, false, t, .rows 1 l.length g⟩ : Blk)][i]?, w.heap.size⟩, rfl, rfl, rfl, ⟨fun id b hb' => ?_, fun _ _ _ _ _ _ _ h1 _ => (by cases h1), hR', hb.size⟩, rfl, fun _ h => h, fun _ h => .inl h, hb, ?_⟩
    · cases id with
      | zero =>
        simp only [List.getElem?_cons_zero, Option.some.injEq] at hb'
        subst hb'
        exact .inl ⟨rfl, h0⟩
      | succ i => simp at hb'
    · exact .own (b := ⟨0, false, t, .rows 1 l.length g⟩) rfl (Nat.le_refl _) rfl fun _ => ⟨l.length, g, rfl, by omega, .inl ⟨rfl, rfl, h0, rfl⟩⟩
  · rw [hlen] at hnc htk
    have hlt : gg < w'.heap.size := (Array.getElem?_eq_some_iff.1 hh).1
    refine ⟨_, ⟨w', R, fun i => if i = 0 then some (gg, cap) else none, fun i => [(⟨0, false, t, .rows 1 l.length g⟩ : Blk)][i]?, w.heap.size⟩, rfl, rfl, rfl, ⟨fun id b hb' => ?_, fun i j _ _ _ _ _ h1 h2 => ?_, hR', hb.size⟩, rfl, fun _ h => h, fun _ h => .inl h, hb, ?_⟩
    · cases id with
      | zero =>
        simp only [List.getElem?_cons_zero, Option.some.injEq] at hb'
        subst hb'
        refine .inr ⟨gg, cap, cur, rfl, hh, hsz, hnc, hcm, fun i hi j hj => ?_, hge, ?_⟩
        · obtain rfl : j = 0 := by omega
          have h5 : cur.toList[i]? = some (.int k (l.getD i 0)) := by
            have := congrArg (fun (x : List Value) => x[i]?) htk
            simp only [List.getElem?_map] at this
            rw [List.getElem?_take, if_pos (by omega)] at this
            rw [this]
            simp [List.getD, hi]
          refine ⟨.int k (l.getD i 0), ?_, rfl, ?_⟩
          · rw [← Array.getElem?_toList, show i * 1 + 0 = i by omega]
            exact h5
          · rw [hg i hi]
            exact .int _ _
        · show ¬ R gg
          intro hr
          have := hR gg hr
          omega
      | succ i => simp at hb'
    · simp only at h1 h2
      split at h1
      · split at h2
        · omega
        · cases h2
      · cases h1
    · refine .own (b := ⟨0, false, t, .rows 1 l.length g⟩) rfl (Nat.le_refl _) rfl fun _ => ⟨l.length, g, rfl, by omega, .inr ⟨gg, cap, rfl, ?_⟩⟩
      rw [hlen]
      simp
end
end Go.Proofs.Ytdbnfdcjibgikaa.Rx
