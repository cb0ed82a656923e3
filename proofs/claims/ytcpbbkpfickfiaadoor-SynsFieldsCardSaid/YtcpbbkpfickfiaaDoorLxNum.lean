/- The contract of auguryref4.Number, of at most five digits. -/
import Derived.Test.YtcpbbkpfickfiaaDoorLxRef
import Derived.Test.YtcpbbkpfickfiaaDoorCdMath
set_option linter.unusedVariables false
set_option linter.unusedSimpArgs false
namespace Go.Proofs.YtcpbbkpfickfiaaDoor
open Go.RowKit
/-- what Number answers of the runes from a digit on -/
def numV (a : Nat) (q : List Int) : Value := if Lx.stops (q.drop (Lx.digs q).length) = true then .tuple #[.int .i64 ((a + (Lx.digs q).length : Nat) : Int), .int .i64 (Lx.val (Lx.digs q)), .bool true] else .tuple #[.int .i64 ((a + (Lx.digs q).length : Nat) : Int), .int .i64 0, .bool false]
theorem Rd.i32_at {w : World} {B : Nat} {A : Option Addr} {r : List Int} (h : Rd w B A (r.map (Value.int .i32))) {i : Nat} (hi : i < r.length) : ∃ ad, A = some ad ∧ ad.block < B ∧ w.cell? (ad.add i) = some (.int .i32 (r.getD i 0)) := h.at_ hi
theorem dig_bd {c : Int} (h : Lx.dig c = true) : 48 ≤ c ∧ c ≤ 57 := by simpa [Lx.dig] using h
theorem val_bd : ∀ (t : List Int), (∀ x ∈ t, Lx.dig x = true) → 0 ≤ Lx.val t ∧ Lx.val t < 10 ^ t.length := by
  intro t
  refine Cd.rev_ind (P := fun t => (∀ x ∈ t, Lx.dig x = true) → 0 ≤ Lx.val t ∧ Lx.val t < 10 ^ t.length) (fun _ => by simp [Lx.val]) (fun l x ih h => ?_) t
  have h1 := ih (fun y hy => h y (by simp [hy]))
  have h2 := dig_bd (h x (by simp))
  rw [Lx.val_snoc, List.length_append, List.length_singleton, Int.pow_succ]
  omega
theorem digs_dig {c : Int} {r : List Int} (hc : Lx.dig c = true) : ∀ x ∈ Lx.digs (c :: r), Lx.dig x = true := by
  rw [Lx.digs_cons]
  split
  · intro x hx; simp at hx; subst hx; exact hc
  · exact Lx.takeWhile_all
theorem digs_five (q : List Int) : (Lx.digs q).length ≤ 5 := by
  cases q with
  | nil => simp [Lx.digs]
  | cons c r =>
    rw [Lx.digs_cons]
    split
    · simp
    · have := (List.takeWhile_prefix Lx.dig (l := (c :: r).take 5)).length_le
      rw [List.length_take] at this
      omega
set_option maxRecDepth 100000 in
set_option maxHeartbeats 8000000 in
theorem rnum_any (A : Option Addr) (n c a : Nat) (r : List Int) (w : World) (hn : n = r.length) (hr : Rd w w.heap.size A (r.map (Value.int .i32))) (hs : n ≤ 1000000) (ha : a < n) (hd : Lx.dig (r.getD a 0) = true) :
    Calls Tryd.prog 35 #[.slice A n c, .int .i64 a, .int .i64 5] w (Ret (numV a (r.drop a)) w) := by
  subst hn
  obtain ⟨aA, rfl, hbA, hca⟩ := hr.i32_at ha
  have hq : ∀ j, (r.drop a).getD j 0 = r.getD (a + j) 0 := fun j => by simp [List.getD, List.getElem?_drop]
  have hql : (r.drop a).length = r.length - a := List.length_drop
  have h0 : 0 < (r.drop a).length := by omega
  have hd0 : Lx.dig ((r.drop a).getD 0 0) = true := by rw [hq]; exact hd
  have hnext := fun j hj => Lx.digs_next (q := r.drop a) h0 hd0 (j := j) hj
  obtain ⟨c0, r0, hcr⟩ : ∃ c0 r0, r.drop a = c0 :: r0 := List.exists_cons_of_ne_nil (fun e => by rw [e] at h0; simp at h0)
  have hall : ∀ x ∈ Lx.digs (r.drop a), Lx.dig x = true := by
    rw [hcr] at hd0 ⊢
    exact digs_dig (by simpa using hd0)
  have h5 := digs_five (r.drop a)
  have HN := Lib.hid hnext; have HQ := Lib.hid hq; have HALL := Lib.hid hall; have HRD := Lib.hid hr
  clear hnext hq hall h0 hd0 hcr hr
  generalize hds : Lx.digs (r.drop a) = ds at *
  have HDS := Lib.hid hds
  clear hds
  generalize hrl : r.length = rl at *
  have HRL := Lib.hid hrl
  clear hrl
  go_enter Tryd.func35, Tryd.ntmps35
  go_wp2_with fail
  go_loop [9, 10] (fun vk vn => ∃ j : Nat, j ≤ ds.length ∧ vk = .int .i64 ((a + j : Nat) : Int) ∧ vn = .int .i64 (Lx.val (ds.take j))) (fun vk _ => rl - (intOf vk).toNat)
  case atStart => exact ⟨0, by omega, rfl, rfl⟩
  case round =>
    obtain ⟨j, hj, rfl, rfl⟩ := hrel
    have hvb := val_bd (ds.take j) (fun x hx => HALL.out x (List.mem_of_mem_take hx))
    have hvb2 : (10 : Int) ^ (ds.take j).length ≤ 100000 := by
      have h1 : (ds.take j).length ≤ 5 := by rw [List.length_take]; omega
      generalize (ds.take j).length = m at *
      rcases (by omega : m = 0 ∨ m = 1 ∨ m = 2 ∨ m = 3 ∨ m = 4 ∨ m = 5) with rfl | rfl | rfl | rfl | rfl | rfl <;> decide
    have hnn0 : 0 ≤ Lx.val (ds.take j) := hvb.1
    have hnn1 : Lx.val (ds.take j) < 100000 := by omega
    clear hvb hvb2
    rcases HN.out j hj with ⟨g1, g2, g3, g4, g5, g6⟩ | ⟨g1, g2, g3⟩
    · rw [hql] at g2
      rw [HQ.out] at g3 g6
      rw [HQ.out, Nat.add_zero] at g5
      obtain ⟨ad', e', _, hcj⟩ := HRD.out.i32_at (i := a + j) (by rw [HRL.out]; omega)
      cases e'
      have hvs : Lx.val (ds.take (j + 1)) = 10 * Lx.val (ds.take j) + (r.getD (a + j) 0 - 48) := by
        rw [List.take_add_one, ← g6]
        have : ds[j]?.toList = [ds.getD j 0] := by simp [List.getD, g1]
        rw [this, Lx.val_snoc]
      have hxb := dig_bd g3
      have HVS := Lib.hid hvs
      clear hvs g6
      generalize r.getD (a + j) 0 = x at *
      generalize r.getD a 0 = y at *
      generalize Lx.val (ds.take j) = nn at *
      generalize hk : a + j = k at *
      have HKK := Lib.hid hk
      have k1 : (k : Int) < (rl : Int) := by omega
      have k0 : (0 : Int) ≤ (k : Int) := by omega
      have k2 : (k : Int) - (a : Int) = (j : Int) := by omega
      have k3 : (j : Int) < 5 := by omega
      have a0 : (0 : Int) ≤ (a : Int) := by omega
      have a1 : (a : Int) < (rl : Int) := by omega
      have hk9 : k ≤ 1000000 := by omega
      have hj5 : j < 5 := g4
      clear hk
      by_cases hj0 : j = 0
      · have k4 : ¬ (a : Int) < (k : Int) := by omega
        go_wp2_with (go_at_call 34; refine (rdigit_any _ _).mono ?_; rintro e w' ⟨rfl, rfl⟩; rw [g3])
        go_round
        case measure => simp [intOf]; omega
        case rel => exact ⟨j + 1, by omega, by have := HKK.out; go_num, by rw [HVS.out]⟩
      · have k4 : (a : Int) < (k : Int) := by omega
        have hy : y ≠ 48 := g5.resolve_left hj0
        have hyb : (y == 48) = false := by simpa using hy
        go_wp2_with (go_at_call 34; refine (rdigit_any _ _).mono ?_; rintro e w' ⟨rfl, rfl⟩; rw [g3])
        go_round
        case measure => simp [intOf]; omega
        case rel => exact ⟨j + 1, by omega, by have := HKK.out; go_num, by rw [HVS.out]⟩
    · have hvd : Lx.val (ds.take j) = Lx.val ds := by rw [g1, List.take_length]
      have hdr : (r.drop a).drop ds.length = r.drop (a + j) := by rw [← g1, List.drop_drop]
      have hres : numV a (r.drop a) = if Lx.stops (r.drop (a + j)) = true then .tuple #[.int .i64 ((a + j : Nat) : Int), .int .i64 (Lx.val (ds.take j)), .bool true] else .tuple #[.int .i64 ((a + j : Nat) : Int), .int .i64 0, .bool false] := by
        unfold numV
        rw [HDS.out, hdr, hvd, ← g1]
      clear hdr hvd
      rw [hql] at g3
      rw [HQ.out, HQ.out, Nat.add_zero] at g3
      generalize Lx.val (ds.take j) = nn at *
      rcases g3 with g3 | ⟨g3, g4⟩
      · have hst : Lx.stops (r.drop (a + j)) = true := by rw [List.drop_of_length_le (by rw [HRL.out]; omega)]; rfl
        rw [hst] at hres
        clear hst
        simp only [if_true] at hres
        generalize hk : a + j = k at *
        have k1 : ¬ (k : Int) < (rl : Int) := by omega
        have k2 : ¬ (k : Int) = (a : Int) := by omega
        have k3 : ((k : Int) == (a : Int)) = false := by simpa using k2
        clear hk
        have HRES := Lib.hid hres
        clear hres
        go_wp2_with fail
        go_ret3
        exact ⟨by rw [HRES.out]; rfl, rfl⟩
      · obtain ⟨ad', e', _, hcj⟩ := HRD.out.i32_at (i := a + j) (by rw [HRL.out]; omega)
        cases e'
        have hst : Lx.stops (r.drop (a + j)) = !Lx.word (r.getD (a + j) 0) := by
          have hlt : a + j < r.length := by rw [HRL.out]; omega
          rw [List.drop_eq_getElem_cons hlt]
          simp [Lx.stops, List.getD, hlt]
        rw [hst] at hres
        clear hst
        generalize r.getD (a + j) 0 = x at *
        generalize r.getD a 0 = y at *
        generalize hk : a + j = k at *
        have k1 : (k : Int) < (rl : Int) := by omega
        have k0 : (0 : Int) ≤ (k : Int) := by omega
        have k2 : (k : Int) - (a : Int) = (j : Int) := by omega
        have k3 : ¬ (k : Int) = (a : Int) := by omega
        have k3' : ((k : Int) == (a : Int)) = false := by simpa using k3
        have k4 : (a : Int) < (k : Int) := by omega
        have a0 : (0 : Int) ≤ (a : Int) := by omega
        have a1 : (a : Int) < (rl : Int) := by omega
        have hk9 : k ≤ 1000000 := by omega
        clear hk
        unfold Lx.word at hres
        rcases g4 with g4 | ⟨g4, g5 | ⟨g5, g6⟩⟩
        · rw [g4, Bool.or_false] at hres
          cases hlx : Lx.lower x
          all_goals
            rw [hlx] at hres
            simp only [Bool.not_true, Bool.not_false, if_true, Bool.false_eq_true, if_false] at hres
            have HRES := Lib.hid hres
            clear hres
            go_wp2_with (first
              | (go_at_call 34; refine (rdigit_any _ _).mono ?_; rintro e w' ⟨rfl, rfl⟩; rw [g4])
              | (go_at_call 33; refine (rletter_any _ _).mono ?_; rintro e w' ⟨rfl, rfl⟩; rw [hlx]))
            go_ret3
            exact ⟨by rw [HRES.out]; rfl, rfl⟩
        · have k5 : ¬ (j : Int) < 5 := by omega
          rw [g4, Bool.or_true] at hres
          simp only [Bool.not_true, Bool.false_eq_true, if_false] at hres
          have HRES := Lib.hid hres
          clear hres
          go_wp2_with (go_at_call 34; refine (rdigit_any _ _).mono ?_; rintro e w' ⟨rfl, rfl⟩; rw [g4])
          go_ret3
          exact ⟨by rw [HRES.out]; rfl, rfl⟩
        · have k5 : (j : Int) < 5 := by omega
          subst g6
          rw [g4, Bool.or_true] at hres
          simp only [Bool.not_true, Bool.false_eq_true, if_false] at hres
          have HRES := Lib.hid hres
          clear hres
          go_wp2_with (go_at_call 34; refine (rdigit_any _ _).mono ?_; rintro e w' ⟨rfl, rfl⟩; rw [g4])
          go_ret3
          exact ⟨by rw [HRES.out]; rfl, rfl⟩
end Go.Proofs.YtcpbbkpfickfiaaDoor
