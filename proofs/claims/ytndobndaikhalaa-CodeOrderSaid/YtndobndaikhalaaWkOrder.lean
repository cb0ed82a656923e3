/- The walk of CodeOrder: it answers true, whatever it is given. -/
import Derived.Test.YtndobndaikhalaaAwake2
import Derived.StillTailTactics
set_option linter.unusedVariables false
set_option linter.unusedSimpArgs false
namespace Go.Proofs.Ytndobndaikhalaa
open Go.RowKit
theorem Ret.still {P : Program} {f : FuncId} {args : Array Value} {v : Value} {w : World} (h : Calls P f args w (Ret v w)) : Calls P f args w (fun e w'' => e = .returned v ∧ w'' = w) := h.mono fun _ _ hh => ⟨hh.1, hh.2.symm⟩
set_option maxRecDepth 100000 in
set_option maxHeartbeats 8000000 in
theorem order_body (A A' A'' : Option Addr) (n n' n'' c c' c'' : Nat) (xs ys zs : List Int) (w : World) (hn : n = xs.length) (hn' : n' = ys.length) (hn'' : n'' = zs.length) (hs : n + n' + n'' ≤ 600)
    (hx : Rd w w.heap.size A (xs.map (Value.int .u8))) (hy : Rd w w.heap.size A' (ys.map (Value.int .u8))) (hz : Rd w w.heap.size A'' (zs.map (Value.int .u8))) (h1 : Cd.isB xs) (h2 : Cd.isB ys) :
    Calls Try.prog 5 #[.slice A n c, .slice A' n' c', .slice A'' n'' c''] w (RetB (.bool true) w) := by
  have k1 := conv_any (P := Try.prog) (c := c) hx.drew1 hn 24 5 9 Try.underlying24 Try.underlying5 Try.underlying9
  have k2 := conv_any (P := Try.prog) (c := c') hy.drew1 hn' 24 5 9 Try.underlying24 Try.underlying5 Try.underlying9
  have haa := less_any A A w.heap.size n n c c xs xs w hn hn hx hx
  have hab := less_any A A' w.heap.size n n' c c' xs ys w hn hn' hx hy
  have hba := less_any A' A w.heap.size n' n c' c ys xs w hn' hn hy hx
  have hbc := less_any A' A'' w.heap.size n' n'' c' c'' ys zs w hn' hn'' hy hz
  have hac := less_any A A'' w.heap.size n n'' c c'' xs zs w hn hn'' hx hz
  have gab := Ret.still (less_any A A' w.heap.size n n' c c' xs ys w.drew hn hn' hx.drew1 hy.drew1)
  have gba := Ret.still (less_any A' A w.heap.size n' n c' c ys xs w.drew hn' hn hy.drew1 hx.drew1)
  rw [Cd.less_self] at haa
  have hlong : n' < n → Cd.lessB xs ys = false := fun h => Cd.less_long (by omega)
  have hshort : n < n' → Cd.lessB xs ys = true := fun h => Cd.less_short (by omega)
  have htr := @Cd.less_trans xs ys zs
  have hasym := @Cd.less_asym xs ys
  have hne := Cd.less_ne h1 h2
  have hsb : ((strOfNums xs).toList != (strOfNums ys).toList) = !(xs == ys) := by rw [bne, str_beq h1 h2]
  have hsc : ((strOfNums xs).toList == (strOfNums ys).toList) = !(Cd.lessB xs ys || Cd.lessB ys xs) := by rw [str_beq h1 h2, hne]; simp
  rw [← hne] at hsb
  generalize Cd.lessB xs ys = ab at *
  generalize Cd.lessB ys zs = bc at *
  generalize Cd.lessB xs zs = ac at *
  generalize Cd.lessB ys xs = ba at *
  clear hne hx hy hz h1 h2
  generalize strOfNums xs = sx at *
  generalize strOfNums ys = sy at *
  clear hn hn' hn''
  have Haa := Lib.hid haa; have Hab := Lib.hid hab; have Hba := Lib.hid hba; have Hbc := Lib.hid hbc; have Hac := Lib.hid hac; have Gab := Lib.hid gab; have Gba := Lib.hid gba
  clear haa hab hba hbc hac gab gba
  have key : (n' < n ∧ ab = false ∨ n < n' ∧ ab = true ∨ n ≤ n' ∧ n' ≤ n) := by
    rcases Nat.lt_trichotomy n n' with hl | hl | hl
    · exact .inr (.inl ⟨hl, hshort hl⟩)
    · exact .inr (.inr ⟨by omega, by omega⟩)
    · exact .inl ⟨hl, hlong hl⟩
  clear hlong hshort
  have key2 : ab = true → bc = true → ac = true := fun a b => htr a b
  clear htr
  rcases key with ⟨hl, hb⟩ | ⟨hl, hb⟩ | ⟨hl, hl2⟩
  all_goals first | subst hb | skip
  all_goals first | cases ab | skip
  all_goals cases bc
  all_goals cases ba
  all_goals first | (have := key2 rfl rfl; subst this) | skip
  all_goals first | (exfalso; have := hasym rfl; simp at this; done) | skip
  all_goals
    clear key2 hasym
    simp only [Bool.true_or, Bool.false_or, Bool.or_true, Bool.or_false, Bool.not_true, Bool.not_false] at hsb hsc
    go_enter Try.func5, Try.ntmps5
    go_wp2_with (go_at_call 12; (first | (with_reducible refine Haa.out.mono ?_) | (with_reducible refine Hab.out.mono ?_) | (with_reducible refine Hba.out.mono ?_) | (with_reducible refine Hbc.out.mono ?_) | (with_reducible refine Hac.out.mono ?_)); rintro e w' ⟨rfl, rfl⟩)
    refine wp_region_still_tail 15 (by kernel_rfl) (by kernel_rfl) ?_
    simp only [List.take_succ_cons, List.take_zero, List.drop_succ_cons, List.drop_zero]
    change wpStill _ _ w.drew _ _ _
    repeat (first | still_step | (refine wpStill_step (fun K hK => ?_); go_simp; (first | (with_reducible refine ⟨_, Gab.out, ?_⟩) | (with_reducible refine ⟨_, Gba.out, ?_⟩)); refine hK _ ?_; clear hK K))
    refine wpStill_nil ?_
    change wpList _ _ _ _ _ w.drew
    go_wp2_with (go_at_call 8; refine (awake2 _).mono ?_; rintro e w' ⟨rfl, hbw⟩)
    go_ret
    exact RetB.b rfl rfl (upT (up0 _).drew hbw)

theorem walk_CodeOrder (A A' A'' : Option Addr) (c c' c'' : Nat) (xs ys zs : List Int) (w : World) (hc : xs.length ≤ c) (hm : c ≤ 140737488351232) (hc' : ys.length ≤ c') (hm' : c' ≤ 140737488351232) (hc'' : zs.length ≤ c'') (hm'' : c'' ≤ 140737488351232)
    (hx : Rd w w.heap.size A (xs.map (Value.int .u8))) (hy : Rd w w.heap.size A' (ys.map (Value.int .u8))) (hz : Rd w w.heap.size A'' (zs.map (Value.int .u8))) (h1 : Cd.isB xs) (h2 : Cd.isB ys) :
    Calls Try.prog 5 #[.slice A xs.length c, .slice A' ys.length c', .slice A'' zs.length c''] w (RetB (.bool true) w) := by
  by_cases hs : xs.length + ys.length + zs.length ≤ 600
  · exact order_body A A' A'' _ _ _ c c' c'' xs ys zs w rfl rfl rfl hs hx hy hz h1 h2
  · clear hx hy hz h1 h2
    generalize xs.length = n at *
    generalize ys.length = n' at *
    generalize zs.length = n'' at *
    go_enter Try.func5, Try.ntmps5
    go_wp2_with (go_at_call 8; refine (awake2 _).mono ?_; rintro e w' ⟨rfl, hbw⟩)
    go_ret
    exact RetB.b rfl rfl hbw
end Go.Proofs.Ytndobndaikhalaa
