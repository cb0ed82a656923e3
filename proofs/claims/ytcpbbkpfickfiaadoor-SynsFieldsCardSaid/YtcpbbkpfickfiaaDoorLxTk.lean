/- The contracts of strings.Clone and of lexr's tok. -/
import Derived.Test.YtcpbbkpfickfiaaDoorLxHead
import Derived.Test.YtcpbbkpfickfiaaDoorLxShelf
import Derived.Test.YtcpbbkpfickfiaaDoorLxSt
import Derived.Lib.AtoiErrMem
import Derived.Laws.CopyOwn
set_option linter.unusedVariables false
set_option linter.unusedSimpArgs false
namespace Go.Proofs.YtcpbbkpfickfiaaDoor
open Go.RowKit
theorem clone_any (s : ByteArray) (w : World) (hs : s.size ≤ 1000000) : Calls Tryd.prog 65 #[.string s] w (RetB (.string s) w) := by
  go_enter Tryd.func65, Tryd.ntmps65
  go_wp2_with (go_at_call 74; refine (Tryd.stringslite_Clone s _ (by omega)).mono ?_; rintro e w' ⟨rfl, hb⟩)
  go_ret
  exact ⟨rfl, hb⟩
theorem atoi_any (s : ByteArray) (N : Int) (h18 : s.size ≤ 18) (hat : Lib.atoi s.data.toList = some N) (w : World) : Calls Tryd.prog 66 #[.string s] w (RetB (.tuple #[.int .i64 N, .nilIface]) w) := by
  refine (Tryd.strconv_Atoi s N h18 hat w).mono fun e w' h => ?_
  obtain ⟨he, t, hw⟩ := h
  rw [hw]
  exact ⟨he, Lib.bytesWorld_below w 5 t⟩
theorem tok_new (w w1 : World) (B : Nat) (C : Array Value) (e : TypeId) (hb : Below (w.alloc (.cells C e)).heap.size (w.alloc (.cells C e)) w1) (o : Obj) : (w1.alloc o).heap[w.heap.size]? = some (.cells C e (0, 0)) := by
  have h1 : w1.heap[w.heap.size]? = (w.alloc (.cells C e)).heap[w.heap.size]? := hb.block _ (by simp)
  have h2 := hb.size
  rw [heap_alloc_old _ _ (by simp at h2; omega), h1, heap_alloc_new]
set_option maxRecDepth 100000 in
set_option maxHeartbeats 4000000 in
theorem tok_any (kd : Int) (s : ByteArray) (n : Nat) (t : List Int) (N : Int) (w : World) (hn : n ≤ s.size) (hs : s.size ≤ 1000000) (hx : s.extract 0 n = strOfNums t) (ht : t.length ≤ 1000000)
    (hk : (kd = 2 ∧ t.length ≤ 18 ∧ Lib.atoi (strOfNums t).data.toList = some N) ∨ (kd ≠ 2 ∧ N = 0)) :
    Calls Tryd.prog 46 #[.int .i64 kd, .string s, .int .i64 (n : Int)] w (RetB (tokA kd (strOfNums t) N 0) w) := by
  have hss : (strOfNums t).size = t.length := strOfNums_size t
  rcases hk with ⟨rfl, h18, hat⟩ | ⟨h2, rfl⟩
  · have HAT := Lib.hid hat
    clear hat
    go_enter Tryd.func46, Tryd.ntmps46
    go_wp2_with fail
    refine (clone_any _ _ (by omega)).mono ?_
    rintro e w1 ⟨rfl, hb1⟩
    have g6 := tok_at _ _ _ _ hb1
    have hs1 : w.heap.size < w1.heap.size := by have := hb1.size; simp at this; omega
    go_wp2_with fail
    refine (atoi_any (strOfNums t) N (by omega) HAT.out _).mono ?_
    rintro e w2 ⟨rfl, hb2⟩
    have g2 := tok_at _ _ _ _ hb2
    have d2 := cell_of_row _ _ 2 _ _ _ g2
    have f2 := frozen_of_row _ _ 2 _ _ g2
    simp only [List.getElem?_toArray, List.getElem?_cons_succ, List.getElem?_cons_zero] at d2
    have g62 := (tok_old _ _ _ _ hb2 hs1).trans g6
    have hne : w.heap.size ≠ w1.heap.size := by omega
    have g2s := heap_setCell_same w2 _ 2 _ _ (.int .i64 N) g2
    have g6s := (heap_setCell_other w2 ⟨w1.heap.size, 2, none⟩ w.heap.size (.int .i64 N) hne).trans g62
    have hbt : Below w.heap.size w (w2.setCell ⟨w1.heap.size, 2, none⟩ (.int .i64 N)) := by
      have hb3 : Below w.heap.size w w2 := upT (upA (upT (upA (up0 w) _) hb1) _) hb2
      rw [setCell_eq_setRow _ _ _ _ _ _ _ g2]
      exact below_setRow hb3 (by omega) _
    simp only [List.setIfInBounds_toArray, List.set_cons_zero, List.set_cons_succ] at g2s
    clear g2 g62 g6 hb1 hb2
    go_wp2_with (first
      | (refine wp_loadT (o := ⟨some 23, .load 58 (.tmp 7), _, _, _, none⟩) rfl _ rfl w1.heap.size rfl _ _ _ _ _ (0, 0) g2s ?_)
      | (refine wp_storeT (o := ⟨none, .store 58 (.tmp 6) (.tmp 23), _, _, _, none⟩) rfl _ _ rfl w.heap.size _ _ _ _ rfl rfl _ _ _ _ _ g6s rfl rfl rfl rfl ?_))
    (try simp only [Exit.inBlock, Exit.then])
    refine bodyPost_ret (resT rfl _ _ _ _ _ _ _ _ _ rfl (setRow_heap _ _ _ _ _ _ g6s)) rfl ?_
    exact ⟨rfl, below_setRow hbt (Nat.le_refl _) _⟩
  · go_enter Tryd.func46, Tryd.ntmps46
    go_wp2_with fail
    refine (clone_any _ _ (by omega)).mono ?_
    rintro e w1 ⟨rfl, hb1⟩
    have g6 := tok_new w _ w.heap.size _ _ hb1
    go_wp2_with (refine wp_storeT (o := ⟨none, .store 58 (.tmp 6) (.tmp 23), _, _, _, none⟩) rfl _ _ rfl w.heap.size _ _ _ _ rfl rfl _ _ _ _ _ (g6 _) rfl rfl rfl rfl ?_)
    (try simp only [Exit.inBlock, Exit.then])
    refine bodyPost_ret (resT rfl _ _ _ _ _ _ _ _ _ rfl (setRow_heap _ _ _ _ _ _ (g6 _))) rfl ?_
    exact ⟨rfl, below_setRow (upA (upT (upA (up0 w) _) hb1) _) (Nat.le_refl _) _⟩
end Go.Proofs.YtcpbbkpfickfiaaDoor
