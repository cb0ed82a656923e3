/- Append. -/
import Derived.Test.YtdbnfdcjibgikaaRx12
set_option linter.unusedVariables false
set_option linter.unusedSimpArgs false
namespace Go.Proofs.Ytdbnfdcjibgikaa.Rx
open Go.RowKit
section
variable {P : Program} {cx : Cx}
theorem run_append {t e : TypeId} {i : TypeInfo} {z : Value} {w : World} {R : Nat → Prop} {B : Nat} (ht : P.underlying t = some (.slice e)) (hi : P.info? e = some i) (hz : i.zero = some z) (hzs : z.cells.size = i.size) (h0 : 0 < i.size)
    {v : Value} {n : Nat} {xs : List Value} (hown : w.ownsRow B e i.size v n xs) {y : Value} {k c : Nat} {f : Nat → Nat → AV} {A : Option Addr} {news : List Value} (hs : Src w R y k i.size f A c news) (h1 : (n + k) * i.bytes ≤ 140737488355328) (h2 : n + k ≤ 140737488355328) (hb : B ≤ w.heap.size) (ty : TypeId) :
    ∃ v' w', (Builtin.append_ #[t, t] ty #[v, y]).run P w = .ok v' w' ∧ w'.ownsRow B e i.size v' (n + k) (xs ++ news) ∧ w.grownBy w' v.ownBlock ∧ (v'.ownBlock = v.ownBlock ∨ v'.ownBlock = some w.heap.size) := by
  rw [hs.val]
  cases hA : A with
  | some ad =>
    obtain ⟨v', w', k1, k2, k3, _, k4⟩ := run_append_own_at (P := P) w B t ty e i z i.size i.bytes ht hi hz rfl rfl hzs h0 v n xs hown ad k c news hs.len (hs.cells ad hA) hs.one (by simp only [maxLen]; omega) h1 hb
    exact ⟨v', w', k1, k2, k3, k4⟩
  | none =>
    have hk : k = 0 := by
      rcases Nat.eq_zero_or_pos k with h | h
      · exact h
      · obtain ⟨g, o, e⟩ := hs.at_ h
        rw [hA] at e; cases e
    subst hk
    have hnil : news = [] := List.eq_nil_of_length_eq_zero (by rw [hs.len, Nat.zero_mul])
    subst hnil
    have hrun : (Builtin.append_ #[t, t] ty #[v, .slice none 0 c]).run P w = .ok v w := by
      rcases hown.2 with ⟨rfl, rfl⟩ | ⟨g, cap, cur, rfl, _, _, hnc, _⟩ <;> simp [Builtin.append_, run_underlying ht, sizeOf, typeInfo, hi, Builtin.lenOf, Builtin.firstCells, storeCells, *]
    exact ⟨v, w, hrun, by simpa using hown, ⟨rfl, rfl, rfl, Nat.le_refl _, fun _ _ _ => rfl⟩, .inl rfl⟩
/-- a row that is owned, where it lies -/
theorem own_place {w : World} {B e m N : Nat} {v : Value} {ys : List Value} (h : w.ownsRow B e m v N ys) : (v = .slice none 0 0 ∧ N = 0) ∨ ∃ g cap cur, v = .slice (some ⟨g, 0, none⟩) N cap ∧ B ≤ g ∧ w.heap[g]? = some (.cells cur e (0, 0)) ∧ N ≤ cap ∧ cap ≤ maxLen ∧ cur.size = cap * m ∧
    (∀ (j : Nat) u, ys[j]? = some u → cur[j]? = some u) := by
  rcases h.2 with h2 | ⟨g, cap, cur, h2, h3, h4, h5, h6, h7, h8⟩
  · exact .inl h2
  · refine .inr ⟨g, cap, cur, h2, h3, h4, h5, h6, h7, fun j u hu => ?_⟩
    rw [← h8, List.getElem?_take] at hu
    split at hu
    · simpa using hu
    · cases hu
theorem appendA_sound {md : Bool} {t : TypeId} {x y : AV} {next : Nat} {orc : List Orc} {r : Res} (h : appendA P md t x y cx.H next orc = some r) (hp : ∀ p ∈ r.cs, p) (hc : CRep cx) (hnone : cx.H next = none)
    {u v : Value} (hx : Rep cx x u) (hy : Rep cx y v) (ty : TypeId) :
    ∃ z cx', (Builtin.append_ #[t, t] ty #[u, v]).run P cx.w = .ok z cx'.w ∧ cx'.H = r.heap ∧ CRep cx' ∧ Stab cx cx' ∧ Rep cx' r.v z ∧ NewIds cx.H next r.heap r.next := by
  unfold appendA at h
  split at h
  · rename_i e hu
    obtain ⟨i, hi, hA⟩ := Option.bind_eq_some_iff.1 h
    clear h
    obtain ⟨z0, hz0, hB⟩ := Option.bind_eq_some_iff.1 hA
    clear hA
    obtain ⟨hb, hC⟩ := bif_some hB
    clear hB
    rw [Nat.blt_eq] at hb
    obtain ⟨i', zv, hi', hzz, hsz, _, _⟩ := zeroA_some (cx := cx) hz0
    rw [hi] at hi'
    cases hi'
    obtain ⟨q, hq, h⟩ := Option.bind_eq_some_iff.1 hC
    clear hC
    obtain ⟨A, c, news, hsrc⟩ := srcA_rep hq hb hc hy
    split at h
    · have ex := hx.nils_inv
      subst ex
      obtain ⟨p, hp', rfl⟩ := Option.map_eq_some_iff.1 h
      obtain ⟨c1, c2⟩ := chk_some hp' hp
      obtain ⟨v', w', k1, k2, k3, k4⟩ := run_append (P := P) hu hi hzz hsz hb (World.ownsRow_nil cx.w cx.B e i.size) hsrc (by rw [Nat.zero_add]; exact c1) (by omega) hc.blt ty
      simp only [Nat.zero_add, List.nil_append] at k2
      have hgen : ∀ p : Option (Nat × Nat), (∀ g c, p = some (g, c) → cx.w.heap.size ≤ g) → Stab cx (cx.turn w' next p ⟨0, false, e, .rows i.size q.1 q.2⟩) ∧ (HB (cx.turn w' next p ⟨0, false, e, .rows i.size q.1 q.2⟩) next ⟨0, false, e, .rows i.size q.1 q.2⟩ → CRep (cx.turn w' next p ⟨0, false, e, .rows i.size q.1 q.2⟩)) := fun p hpp =>
        turn_ok hc (fun k hk _ => k3.block k hk (by simp [Value.ownBlock])) (fun b hb => by rw [hnone] at hb; cases hb) k3.os k3.tape k3.output k3.size (fun g c e => .inr (hpp g c e))
      rcases own_place k2 with ⟨rfl, hN⟩ | ⟨g, cap, cur, rfl, j1, j2, j3, j4, j5, j6⟩
      · obtain ⟨hst, hcr⟩ := hgen none (fun _ _ e => by cases e)
        refine ⟨_, _, k1, rfl, hcr (.inl ⟨by show upd cx.φ next none next = _; rw [upd_same], hN⟩), hst, ?_, new_upd⟩
        exact .own (b := ⟨0, false, e, .rows i.size q.1 q.2⟩) (by show upd cx.H next _ next = _; rw [upd_same]) (Nat.le_refl _) rfl fun _ => ⟨q.1, q.2, rfl, by omega, .inl ⟨by show upd cx.φ next none next = _; rw [upd_same], rfl, hN, rfl⟩⟩
      · have hg : g = cx.w.heap.size := by
          rcases k4 with k4 | k4
          · simp [Value.ownBlock] at k4
          · simpa [Value.ownBlock] using k4
        obtain ⟨hst, hcr⟩ := hgen (some (g, cap)) (fun g' c' e => by cases e; omega)
        have hφ : (cx.turn w' next (some (g, cap)) ⟨0, false, e, .rows i.size q.1 q.2⟩).φ next = some (g, cap) := by show upd cx.φ next _ next = _; rw [upd_same]
        refine ⟨_, _, k1, rfl, hcr (.inr ⟨g, cap, cur, hφ, j2, j5, j3, j4, fun a ha j hj => ?_, j1, fun hR => ?_⟩), hst, ?_, new_upd⟩
        · obtain ⟨u, hu', hr⟩ := hsrc.rep a ha j hj
          exact ⟨u, j6 _ _ hu', hsrc.one u (List.mem_of_getElem? hu'), hr.ext hc hst.ext⟩
        · have := hc.rlt g hR
          omega
        · exact .own (b := ⟨0, false, e, .rows i.size q.1 q.2⟩) (by show upd cx.H next _ next = _; rw [upd_same]) (Nat.le_refl _) rfl fun _ => ⟨q.1, q.2, rfl, by omega, .inr ⟨g, cap, hφ, by simp⟩⟩
    · rename_i id gen m off len
      obtain ⟨b, hb', hle, hO⟩ := hx.own_inv
      split at h
      · rename_i gen' e' m' n f heq
        rw [hb'] at heq
        cases heq
        obtain ⟨hqq, h'⟩ := bif_some h
        clear h
        simp only [Bool.and_eq_true] at hqq
        obtain ⟨⟨⟨q1, q2⟩, q3⟩, q4⟩ := hqq
        have e1 := Nat.eq_of_beq_eq_true q1
        have e2 := Nat.eq_of_beq_eq_true q2
        have e3 := Nat.eq_of_beq_eq_true q3
        have e4 := Nat.eq_of_beq_eq_true q4
        subst e2; subst e3; subst e4; subst e1
        obtain ⟨p, hp', rfl⟩ := Option.map_eq_some_iff.1 h'
        obtain ⟨c0, c1, c2, c3⟩ := chk_some hp' hp
        subst c0; subst c1
        obtain ⟨n', f', k1, k2, k3⟩ := hO rfl
        cases k1
        have hown : ∃ xs, cx.w.ownsRow cx.B e i.size u len xs ∧ (∀ a, a < len → ∀ j, j < i.size → ∃ z, xs[a * i.size + j]? = some z ∧ z.oneCell' = true ∧ RepP cx.w cx.R (f a j) z) ∧ xs.length = len * i.size ∧ (∀ g, u.ownBlock = some g → ∃ cap, cx.φ id = some (g, cap)) := by
          rcases k3 with ⟨p1, _, rfl, rfl⟩ | ⟨g, cap, p1, rfl⟩
          · exact ⟨[], World.ownsRow_nil _ _ _ _, fun a ha => by omega, by simp, fun g hg => by simp [Value.ownBlock] at hg⟩
          · obtain ⟨cur, r1, r2, r3, r4, r5, r6, r7⟩ := rows_of hc hb' rfl p1
            have hle2 : len * i.size ≤ cap * i.size := Nat.mul_le_mul_right _ r3
            refine ⟨cur.toList.take (len * i.size), ⟨by rw [List.length_take, Array.length_toList]; omega, .inr ⟨g, cap, cur, by simp, r6, r1, r3, r4, r2, rfl⟩⟩, fun a ha j hj => ?_, by rw [List.length_take, Array.length_toList]; omega, fun g' hg' => ⟨cap, by simp [Value.ownBlock] at hg'; rw [← hg']; exact p1⟩⟩
            obtain ⟨z, hz, ho, hr⟩ := r5 a ha j hj
            have hlt : a * i.size + j < len * i.size := by
              have : (a + 1) * i.size ≤ len * i.size := Nat.mul_le_mul_right _ ha
              rw [Nat.add_mul] at this
              omega
            exact ⟨z, by rw [List.getElem?_take, if_pos hlt]; simpa using hz, ho, hr⟩
        obtain ⟨xs, hox, hxr, hxl, hxb⟩ := hown
        obtain ⟨v', w', j1, j2, j3, j4⟩ := run_append (P := P) hu hi hzz hsz hb hox hsrc c2 (by omega) hc.blt ty
        have hgen : ∀ p : Option (Nat × Nat), (∀ g c, p = some (g, c) → v'.ownBlock = some g) → Stab cx (cx.turn w' id p ⟨gen + 1, false, e, .rows i.size (len + q.1) fun a j => bif Nat.blt a len then f a j else q.2 (a - len) j⟩) ∧ (HB (cx.turn w' id p ⟨gen + 1, false, e, .rows i.size (len + q.1) fun a j => bif Nat.blt a len then f a j else q.2 (a - len) j⟩) id ⟨gen + 1, false, e, .rows i.size (len + q.1) fun a j => bif Nat.blt a len then f a j else q.2 (a - len) j⟩ → CRep (cx.turn w' id p ⟨gen + 1, false, e, .rows i.size (len + q.1) fun a j => bif Nat.blt a len then f a j else q.2 (a - len) j⟩)) := fun p hpp =>
          turn_ok hc (fun k hk hne => j3.block k hk fun e => by
              obtain ⟨cap, hcap⟩ := hxb k e.symm
              exact hne cap (by rw [hb']; rfl) hcap)
            (fun b hb => by
              rw [hb'] at hb
              cases hb
              exact ⟨rfl, Nat.le_succ _, fun e => absurd e (by simp), fun e => by cases e⟩) j3.os j3.tape j3.output j3.size (fun g c e => by
              have hv := hpp g c e
              rcases j4 with j4 | j4
              · obtain ⟨cap, hcap⟩ := hxb g (by rw [← j4]; exact hv)
                exact .inl ⟨cap, by rw [hb']; rfl, hcap⟩
              · rw [hv] at j4
                cases j4
                exact .inr (Nat.le_refl _))
        have hlt : NewIds cx.H next (upd cx.H id (some ⟨gen + 1, false, e, .rows i.size (len + q.1) fun a j => bif Nat.blt a len then f a j else q.2 (a - len) j⟩)) next := .same fun i' hi' => by
          by_cases e' : i' = id
          · rw [e', hb']; rfl
          · rw [upd_other _ _ _ _ e'] at hi'; exact hi'
        rcases own_place j2 with ⟨rfl, hN⟩ | ⟨g, cap, cur, rfl, l1, l2, l3, l4, l5, l6⟩
        · obtain ⟨hst, hcr⟩ := hgen none (fun _ _ e => by cases e)
          have hφ : (cx.turn w' id none ⟨gen + 1, false, e, .rows i.size (len + q.1) fun a j => bif Nat.blt a len then f a j else q.2 (a - len) j⟩).φ id = none := by show upd cx.φ id none id = _; rw [upd_same]
          refine ⟨_, _, j1, rfl, hcr (.inl ⟨hφ, hN⟩), hst, ?_, hlt⟩
          exact .own (b := ⟨gen + 1, false, e, .rows i.size (len + q.1) fun a j => bif Nat.blt a len then f a j else q.2 (a - len) j⟩) (by show upd cx.H id _ id = _; rw [upd_same]) (Nat.le_refl _) rfl fun _ => ⟨_, _, rfl, by omega, .inl ⟨hφ, rfl, hN, rfl⟩⟩
        · obtain ⟨hst, hcr⟩ := hgen (some (g, cap)) (fun g' c' e => by cases e; rfl)
          have hφ : (cx.turn w' id (some (g, cap)) ⟨gen + 1, false, e, .rows i.size (len + q.1) fun a j => bif Nat.blt a len then f a j else q.2 (a - len) j⟩).φ id = some (g, cap) := by show upd cx.φ id _ id = _; rw [upd_same]
          have hg : cx.B ≤ g ∧ ¬ cx.R g := by
            rcases j4 with j4 | j4
            · obtain ⟨cap', hcap⟩ := hxb g (by rw [← j4]; rfl)
              obtain ⟨_, _, _, _, _, _, r6, r7⟩ := rows_of hc hb' rfl hcap
              exact ⟨r6, r7⟩
            · simp [Value.ownBlock] at j4
              subst j4
              exact ⟨hc.blt, fun hR => by have := hc.rlt _ hR; omega⟩
          refine ⟨_, _, j1, rfl, hcr (.inr ⟨g, cap, cur, hφ, l2, l5, l3, l4, fun a ha j hj => ?_, hg.1, hg.2⟩), hst, ?_, hlt⟩
          · by_cases hal : a < len
            · obtain ⟨z, hz, ho, hr⟩ := hxr a hal j hj
              have hbt : Nat.blt a len = true := by rw [Nat.blt_eq]; exact hal
              refine ⟨z, l6 _ _ ?_, ho, by simp only [hbt, cond_true]; exact hr.ext hc hst.ext⟩
              rw [List.getElem?_append_left (List.getElem?_eq_some_iff.1 hz).1]
              exact hz
            · obtain ⟨z, hz, hr⟩ := hsrc.rep (a - len) (by omega) j hj
              have hbt : Nat.blt a len = false := by
                cases hh : Nat.blt a len with
                | false => rfl
                | true => rw [Nat.blt_eq] at hh; omega
              refine ⟨z, l6 _ _ ?_, hsrc.one z (List.mem_of_getElem? hz), by simp only [hbt, cond_false]; exact hr.ext hc hst.ext⟩
              have hmul : len * i.size ≤ a * i.size := Nat.mul_le_mul_right _ (by omega)
              rw [List.getElem?_append_right (by rw [hxl]; omega), hxl, ← hz]
              congr 1
              rw [Nat.sub_mul]
              omega
          · exact .own (b := ⟨gen + 1, false, e, .rows i.size (len + q.1) fun a j => bif Nat.blt a len then f a j else q.2 (a - len) j⟩) (by show upd cx.H id _ id = _; rw [upd_same]) (Nat.le_refl _) rfl fun _ => ⟨_, _, rfl, by omega, .inr ⟨g, cap, hφ, by simp⟩⟩
      · cases h
    · cases h
  · cases h
theorem evWrite_sound {md : Bool} {o : Oper} {ρ : Operand → AV} {a : Act} {next : Nat} {orc : List Orc} {r : Res} (h : evWrite P md o.op ρ cx.H next orc = some r) (hp : ∀ p ∈ r.cs, p) (hc : CRep cx) (hnone : cx.H next = none)
    (hr : ∀ x, Rep cx (ρ x) (a.eval x)) : Done P o a cx next r := by
  unfold evWrite at h
  split at h
  · rename_i t x y ho
    obtain ⟨q, hq, rfl⟩ := Option.map_eq_some_iff.1 h
    obtain ⟨cx', k1, k2, k3, k4, k5⟩ := storeA_sound hq hp hc (hr x) (hr y)
    exact ⟨.skip, undef, cx', by simp [execOp, ho, k1], .inr ⟨rfl, rfl⟩, k2, k3, k4, .pure (.junk _), .same k5⟩
  · rename_i args at_ ho
    split at h
    · rename_i x y t t' e1 e2
      obtain ⟨hb, h'⟩ := bif_some h
      clear h
      have e := Nat.eq_of_beq_eq_true hb
      subst e
      obtain ⟨z, cx', k1, k2, k3, k4, k5, k6⟩ := appendA_sound h' hp hc hnone (hr x) (hr y) o.type
      have e1' : args = #[x, y] := Array.toList_inj.1 e1
      have e2' : at_ = #[t, t] := Array.toList_inj.1 e2
      subst e1'; subst e2'
      exact ⟨.value z, z, cx', by simp [execOp, ho, resolve, invoke, builtin, k1], .inl rfl, k2, k3, k4, k5, k6⟩
    · cases h
  · cases h
end
end Go.Proofs.Ytdbnfdcjibgikaa.Rx
