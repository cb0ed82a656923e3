/- Signs in memory: a sign's four cells, a row of signs of the call's own; the bytes of a string that are its first runes. -/
import Derived.Test.YtcpbbkpfickfiaaDoorLxSigns
import Derived.Test.YtcpbbkpfickfiaaDoorLxMath2
import Derived.Laws.Cover4
import Derived.Lib.RuneCountTail
import Derived.Lib.Atoi
set_option linter.unusedVariables false
set_option linter.unusedSimpArgs false
namespace Go.Proofs.YtcpbbkpfickfiaaDoor
open Go.RowKit
/-- a sign's cells -/
def tokC (t : Lx.Tk) : List Value := [.int .i64 t.kind, .string (strOfNums t.text), .int .i64 t.n, .int .i64 (t.at_ : Int)]
def flat : List Lx.Tk → List Value
  | [] => []
  | t :: ts => tokC t ++ flat ts
theorem flat_len : ∀ ts : List Lx.Tk, (flat ts).length = ts.length * 4
  | [] => rfl
  | t :: ts => by
    have := flat_len ts
    simp only [flat, List.length_append, tokC, List.length_cons, List.length_nil]
    omega
theorem flat_app : ∀ (ts us : List Lx.Tk), flat (ts ++ us) = flat ts ++ flat us
  | [], us => rfl
  | t :: ts, us => by
    show tokC t ++ flat (ts ++ us) = tokC t ++ flat ts ++ flat us
    rw [flat_app ts us, List.append_assoc]
theorem flat_one (t : Lx.Tk) : flat [t] = tokC t := by simp [flat]
theorem flat_at : ∀ (ts : List Lx.Tk) (j : Nat) (t : Lx.Tk) (k : Nat), ts[j]? = some t → k < 4 → (flat ts)[j * 4 + k]? = (tokC t)[k]?
  | [], j, t, k, h, _ => by simp at h
  | u :: ts, 0, t, k, h, hk => by
    simp at h
    subst h
    show (tokC u ++ flat ts)[0 * 4 + k]? = _
    rw [Nat.zero_mul, Nat.zero_add, List.getElem?_append_left (by simpa [tokC] using hk)]
  | u :: ts, j + 1, t, k, h, hk => by
    have := flat_at ts j t k (by simpa using h) hk
    show (tokC u ++ flat ts)[(j + 1) * 4 + k]? = _
    rw [List.getElem?_append_right (by simp [tokC]; omega)]
    rw [← this]
    congr 1
    simp [tokC]
    omega
theorem tokC_one (t : Lx.Tk) : ∀ u ∈ tokC t, u.oneCell' = true := by
  intro u hu
  simp only [tokC, List.mem_cons, List.not_mem_nil, or_false] at hu
  rcases hu with rfl | rfl | rfl | rfl <;> rfl
section
variable {P : Program} (w : World)
/-- append of one sign to a row of the call's own -/
theorem wp_appT {ops : Array Oper} {rest : List Oper} {o : Oper} {a : Act} {Q : Exit → Act → World → Prop} (hgd : o.guard = none) (s x : Operand) (t : TypeId)
    (ho : o.op = .call { callee := .builtin .append, args := #[s, x], argTypes := #[t, t] })
    (B : Nat) (e : TypeId) (i : TypeInfo) (z : Value) (bytes : Nat) (ht : P.underlying t = some (.slice e)) (hi : P.info? e = some i) (hz : i.zero = some z)
    (hsize : i.size = 4) (hby : i.bytes = bytes) (hzs : z.cells.size = 4)
    (v : Value) (n : Nat) (xs : List Value) (hs : a.eval s = v) (hown : w.ownsRow B e 4 v n xs)
    (C : Array Value) (T : Lx.Tk) (hC : C.toList = tokC T) (G : Nat) (hG : G = w.heap.size) (hx : a.eval x = .slice (some ⟨G, 0, none⟩) 1 1)
    (hn : n + 1 ≤ 1099511627776) (hbytes : bytes ≤ 64) (hbase : B ≤ w.heap.size)
    (h : ∀ v' w', w'.ownsRow B e 4 v' (n + 1) (xs ++ tokC T) → Below B w w' → w.heap.size ≤ w'.heap.size → (∀ k, k < w.heap.size → (∀ g, v.ownBlock = some g → g ≠ k) → w'.heap[k]? = w.heap[k]?) → wpList P ops Q rest (a.put o.dst v') w') :
    wpList P ops Q (o :: rest) a (w.alloc (.cells C e)) := by
  subst hG
  refine wpList_append_own_at (w.alloc (.cells C e)) hgd s x t ho B e i z 4 bytes ht hi hz hsize hby hzs (by omega) v n xs hs (hown.alloc _) ⟨w.heap.size, 0, none⟩ 1 1 (tokC T) hx rfl
    (fun j u hu => ?_) (tokC_one T) (by simp only [maxLen]; omega) ?_ (by simp; omega) fun v' w' h2 h3 _ _ => h v' w' h2 ?_ (Nat.le_trans (by simp) h3.size) (fun k hk hne => ((h3.block k (by simp; omega) (fun e => hne k e.symm rfl))).trans (heap_alloc_old _ _ hk))
  · have h1 : (w.alloc (.cells C e)).heap[w.heap.size]? = some (.cells C e (0, 0)) := by
      show (w.heap.push _)[w.heap.size]? = _
      simp
    have hadd : (⟨w.heap.size, 0, none⟩ : Addr).add j = ⟨w.heap.size, j, none⟩ := by
      unfold Addr.add
      split
      · rename_i h0; subst h0; rfl
      · simp
    rw [hadd]
    simp only [World.cell?, h1]
    rw [← hC] at hu
    simpa using hu
  · have : (n + 1) * bytes ≤ 1099511627776 * 64 := Nat.mul_le_mul hn hbytes
    omega
  · refine ((Below.refl _ _).alloc hbase _).grown h3 (by simp; omega) fun k hk => ((hown.alloc (.cells C e)).lt k hk).1
end
namespace Lx
theorem byte_get {s : ByteArray} {p : Nat} (h : p < s.size) : s.data.toList[p]? = some (s[p]'h) := by
  have h2 : p < s.data.toList.length := by rw [Array.length_toList]; exact h
  rw [List.getElem?_eq_getElem h2]
  rfl
/-- runes below 128 are bytes -/
theorem ascii_at {s : ByteArray} {p : Nat} {x : Int} {r : List Int} (h : runesAt s p = x :: r) (hx : x < 128) : ∃ hp : p < s.size, x = ((s[p]'hp).toNat : Int) ∧ (s[p]'hp).toNat < 128 ∧ runesAt s (p + 1) = r ∧ Utf8.decode s p = ((s[p]'hp).toNat, 1) := by
  by_cases hp : p < s.size
  · rw [runesAt_step hp] at h
    injection h with h1 h2
    rcases Nat.lt_or_ge (s[p]'hp).toNat 128 with h3 | h3
    · have hd := decode_ascii s p hp h3
      rw [hd] at h1 h2
      exact ⟨hp, h1.symm, h3, h2, hd⟩
    · have := (decode_high s p hp h3).1
      omega
  · rw [runesAt_end hp] at h
    cases h
theorem ascii_run : ∀ (u : List Int) (s : ByteArray) (p : Nat) (r : List Int), runesAt s p = u ++ r → (∀ x ∈ u, x < 128) → p ≤ s.size → p + u.length ≤ s.size ∧ runesAt s (p + u.length) = r ∧ (s.data.toList.drop p).take u.length = u.map (fun n => UInt8.ofNat n.toNat)
  | [], s, p, r, h, _, hp => ⟨by simpa using hp, by simpa using h, by simp⟩
  | x :: u, s, p, r, h, hu, _ => by
    obtain ⟨hp, hx, hb, h1, _⟩ := ascii_at (x := x) (r := u ++ r) h (hu x (by simp))
    obtain ⟨k1, k2, k3⟩ := ascii_run u s (p + 1) r h1 (fun y hy => hu y (by simp [hy])) hp
    refine ⟨by simp; omega, ?_, ?_⟩
    · rw [← k2]
      congr 1
      simp
      omega
    · have hl : p < s.data.toList.length := by rw [Array.length_toList]; exact hp
      rw [List.drop_eq_getElem_cons hl, List.length_cons, List.take_succ_cons, List.map_cons, k3]
      congr 1
      rw [hx]
      have e : s.data.toList[p] = s[p]'hp := rfl
      rw [e]
      simp
theorem extract_list (s : ByteArray) (p e : Nat) : (s.extract p e).data.toList = (s.data.toList.drop p).take (e - p) := by
  rw [Lib.extract_data]
/-- a string's bytes that are its first runes -/
theorem ascii_extract {u r : List Int} {s : ByteArray} {p : Nat} (h : runesAt s p = u ++ r) (hu : ∀ x ∈ u, x < 128) (hp : p ≤ s.size) : s.extract p (p + u.length) = strOfNums u := by
  apply ByteArray.ext
  apply Array.toList_inj.1
  rw [extract_list, Nat.add_sub_cancel_left, (ascii_run u s p r h hu hp).2.2, strOfNums_data]
theorem runesAt_tail (s : ByteArray) (n : Nat) : ∀ (f p : Nat), runesF (s.extract n s.size) f p = runesF s f (n + p)
  | 0, p => rfl
  | f + 1, p => by
    unfold runesF
    rw [Lib.tail_size, Lib.tail_decode, runesAt_tail s n f]
    by_cases h : n + p < s.size
    · rw [if_pos (by omega), if_pos h, Nat.add_assoc]
    · rw [if_neg (by omega), if_neg h]
theorem runes_tail (s : ByteArray) (n : Nat) : runes (s.extract n s.size) = runesAt s n := by
  unfold runes runesAt
  rw [runesAt_tail, Lib.tail_size]
  rfl
/-- what begins with ASCII reads so -/
theorem runesF_app (u : List Int) (t : ByteArray) (hu : ∀ x ∈ u, 0 ≤ x ∧ x < 128) : runes (strOfNums u ++ t) = u ++ runes t := by
  have key : ∀ k, k ≤ u.length → runesAt (strOfNums u ++ t) (u.length - k) = u.drop (u.length - k) ++ runes t := by
    intro k
    induction k with
    | zero =>
      intro _
      rw [Nat.sub_zero, List.drop_length, List.nil_append, ← runes_tail]
      congr 1
      apply ByteArray.ext
      apply Array.toList_inj.1
      rw [extract_list, ByteArray.size_append, strOfNums_size]
      have e : (strOfNums u ++ t).data.toList = (u.map fun n => UInt8.ofNat n.toNat) ++ t.data.toList := by
        rw [ByteArray.data_append, Array.toList_append, strOfNums_data]
      rw [e, List.drop_append_of_le_length (by simp), List.drop_of_length_le (by simp), List.nil_append, List.take_of_length_le]
      rw [Array.length_toList]
      show t.size ≤ _
      omega
    | succ k ih =>
      intro hk
      have ih := ih (by omega)
      have hlt : u.length - (k + 1) < u.length := by omega
      have hp : u.length - (k + 1) < (strOfNums u ++ t).size := by rw [ByteArray.size_append, strOfNums_size]; omega
      have hx := hu u[u.length - (k + 1)] (List.getElem_mem hlt)
      have hb : (((strOfNums u ++ t)[u.length - (k + 1)]'hp).toNat : Int) = u[u.length - (k + 1)] := by
        have h1 := byte_get hp
        have e : (strOfNums u ++ t).data.toList = (u.map fun n => UInt8.ofNat n.toNat) ++ t.data.toList := by
          rw [ByteArray.data_append, Array.toList_append, strOfNums_data]
        rw [e, List.getElem?_append_left (by simpa using hlt), List.getElem?_map, List.getElem?_eq_getElem hlt] at h1
        simp only [Option.map_some, Option.some.injEq] at h1
        rw [← h1]
        simp
        omega
      have hd := decode_ascii (strOfNums u ++ t) _ hp (by omega)
      rw [runesAt_step hp, hd]
      simp only
      rw [show u.length - (k + 1) + 1 = u.length - k by omega, ih, List.drop_eq_getElem_cons hlt, hb, show u.length - (k + 1) + 1 = u.length - k by omega]
      rfl
  have := key u.length (Nat.le_refl _)
  rw [Nat.sub_self, runesAt_zero] at this
  simpa using this
theorem lower_lt {c : Int} (h : lower c = true) : 0 ≤ c ∧ c < 128 := by
  have : 97 ≤ c ∧ c ≤ 122 := by simpa [lower] using h
  omega
theorem dig_lt {c : Int} (h : dig c = true) : 0 ≤ c ∧ c < 128 := by
  have : 48 ≤ c ∧ c ≤ 57 := by simpa [dig] using h
  omega
theorem word_lt {c : Int} (h : word c = true) : 0 ≤ c ∧ c < 128 := by
  unfold word at h
  rw [Bool.or_eq_true] at h
  rcases h with h | h
  · exact lower_lt h
  · exact dig_lt h
theorem sgn_lt {c : Int} (h : sgn c = true) : 0 ≤ c ∧ c < 128 := by
  have : c = 44 ∨ c = 58 ∨ c = 91 ∨ c = 93 ∨ c = 43 := by simpa [sgn] using h
  omega
theorem decNat_val : ∀ (t : List Int) (acc : Nat), (∀ x ∈ t, dig x = true) → Lib.decFrom acc (t.map fun n => UInt8.ofNat n.toNat) = some (t.foldl (fun n c => 10 * n + (c - 48)) (acc : Int)).toNat ∧ 0 ≤ t.foldl (fun n c => 10 * n + (c - 48)) (acc : Int)
  | [], acc, _ => by simp [Lib.decFrom]
  | x :: t, acc, h => by
    have hx : 48 ≤ x ∧ x ≤ 57 := by simpa [dig] using h x (by simp)
    have hd : Lib.digitVal (UInt8.ofNat x.toNat) = some (x.toNat - 48) := by
      obtain ⟨n, rfl⟩ : ∃ n : Nat, x = n := ⟨x.toNat, by omega⟩
      have : n = 48 ∨ n = 49 ∨ n = 50 ∨ n = 51 ∨ n = 52 ∨ n = 53 ∨ n = 54 ∨ n = 55 ∨ n = 56 ∨ n = 57 := by omega
      rcases this with rfl | rfl | rfl | rfl | rfl | rfl | rfl | rfl | rfl | rfl <;> rfl
    obtain ⟨k1, k2⟩ := decNat_val t (acc * 10 + (x.toNat - 48)) (fun y hy => h y (by simp [hy]))
    have e : ((acc * 10 + (x.toNat - 48) : Nat) : Int) = 10 * (acc : Int) + (x - 48) := by omega
    rw [e] at k1 k2
    simp only [List.map_cons, Lib.decFrom, hd, List.foldl_cons]
    exact ⟨k1, k2⟩
/-- what strconv.Atoi reads of digits is their value -/
theorem atoi_val {x : Int} {t : List Int} (h : ∀ y ∈ x :: t, dig y = true) : Lib.atoi (strOfNums (x :: t)).data.toList = some (val (x :: t)) := by
  have hx : 48 ≤ x ∧ x ≤ 57 := by simpa [dig] using h x (by simp)
  obtain ⟨k1, k2⟩ := decNat_val (x :: t) 0 h
  have e1 : (UInt8.ofNat x.toNat == 45) = false := by
    obtain ⟨n, rfl⟩ : ∃ n : Nat, x = n := ⟨x.toNat, by omega⟩
    have : n = 48 ∨ n = 49 ∨ n = 50 ∨ n = 51 ∨ n = 52 ∨ n = 53 ∨ n = 54 ∨ n = 55 ∨ n = 56 ∨ n = 57 := by omega
    rcases this with rfl | rfl | rfl | rfl | rfl | rfl | rfl | rfl | rfl | rfl <;> rfl
  have e2 : (UInt8.ofNat x.toNat == 43) = false := by
    obtain ⟨n, rfl⟩ : ∃ n : Nat, x = n := ⟨x.toNat, by omega⟩
    have : n = 48 ∨ n = 49 ∨ n = 50 ∨ n = 51 ∨ n = 52 ∨ n = 53 ∨ n = 54 ∨ n = 55 ∨ n = 56 ∨ n = 57 := by omega
    rcases this with rfl | rfl | rfl | rfl | rfl | rfl | rfl | rfl | rfl | rfl <;> rfl
  rw [strOfNums_data, List.map_cons]
  rw [List.map_cons] at k1
  unfold Lib.atoi
  simp only [e1, e2, Bool.false_eq_true, if_false, Lib.decNat, List.isEmpty_cons, k1, Option.map_some]
  congr 1
  unfold val
  exact Int.toNat_of_nonneg k2
end Lx
end Go.Proofs.YtcpbbkpfickfiaaDoor
