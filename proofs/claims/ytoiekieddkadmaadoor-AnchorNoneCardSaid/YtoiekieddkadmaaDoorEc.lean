/- errors.As at a pointer to a number and at a pointer to a fault, over chains of faults. -/
import Derived.Test.YtoiekieddkadmaaDoorEb
import Derived.Defers
import Derived.Recover
import Derived.RegionTactic
import Derived.ChangeAlike
import Derived.Laws.EntriesVeiled
namespace Go.Proofs.YtoiekieddkadmaaDoor
set_option linter.unusedSimpArgs false
set_option linter.unusedVariables false
open Go.RowKit Go.Extern.Stop Go.Stop Go.Extern

theorem asNil (t : Value) (w : World) :
    Calls Tryd.prog 52 #[.nilIface, t] w fun e w' => e = .returned (.bool false) ∧ w = w' := by
  go_enter Tryd.func52, Tryd.ntmps52
  go_wp2
  go_ret
  exact ⟨rfl, rfl⟩

/-- What errors.As reads of the package's own variable. -/
def ErrVar (w : World) : Prop := w.cell? ⟨0, 0, none⟩ = some (.iface 94 (.agg #[.pointer (some ⟨4, 43, none⟩)]))
theorem ErrVar.below {w w' : World} {B : Nat} (hB : w.heap.size ≤ B) (hb : Below B w w') (h : ErrVar w) : ErrVar w' :=
  (hb.cell (p := ⟨0, 0, none⟩) (Nat.lt_of_lt_of_le (lt_of_cell (a := ⟨0, 0, none⟩) h) hB)).trans h

set_option maxRecDepth 100000 in
set_option maxHeartbeats 2000000 in
theorem as_num (n : Int) (ts : List ByteArray) (T : TypeId) (d : Value) (t : Addr) (old : Value) (w : World) (hg : ErrVar w) (hc : Chain w n ts (.iface T d)) (ht0 : w.cell? t = some old) (hf0 : w.frozen? t = false) :
    Calls Tryd.prog 52 #[.iface T d, .iface 115 (.pointer (some t))] w fun e w' => e = .returned (.bool true) ∧ Below w.heap.size (w.setCell t (.int .i64 n)) w' := by
  have h35 := ext35; have h36 := ext36; have h37 := ext37; have h67 := ext67; have h80 := ext80; have h81 := ext81
  have mK := methodKind; have mE := methodElem; have mI := methodImplements
  have vO := valueOf61
  have tO := type61
  have k1 := kind61; have k2 := kind26
  have eO := elem61
  have iO := implements26
  have htl := lt_of_cell ht0
  have b2 : Below w.heap.size w ((w.alloc (.cells #[.pointer (some t)] 115)).alloc (.cells #[.pointer (some ⟨4, 115, none⟩), .pointer (some ⟨w.heap.size, 0, none⟩), .int .u64 150] 121)) := ((Below.refl w.heap.size w).alloc (Nat.le_refl _) _).alloc (by simp) _
  have HB := Lib.hid b2
  have HG := Lib.hid (hg.below (Nat.le_refl _) b2)
  have nO := isNil61 ⟨w.heap.size, 0, none⟩ t ((w.alloc (.cells #[.pointer (some t)] 115)).alloc (.cells #[.pointer (some ⟨4, 115, none⟩), .pointer (some ⟨w.heap.size, 0, none⟩), .int .u64 150] 121)) (by rw [World.cell?_alloc_lt _ _ ⟨w.heap.size, 0, none⟩ (by simp)]; simp)
  have HA := Lib.hid (as26 n ts (.iface T d) ⟨w.heap.size, 0, none⟩ t old ((w.alloc (.cells #[.pointer (some t)] 115)).alloc (.cells #[.pointer (some ⟨4, 115, none⟩), .pointer (some ⟨w.heap.size, 0, none⟩), .int .u64 150] 121)) (hc.below (Nat.le_refl _) b2) (by rw [World.cell?_alloc_lt _ _ ⟨w.heap.size, 0, none⟩ (by simp)]; simp) ((b2.cell htl).trans ht0) ((b2.frozen htl).trans hf0))
  have hg2 : (((w.alloc (.cells #[.pointer (some t)] 115)).alloc (.cells #[.pointer (some ⟨4, 115, none⟩), .pointer (some ⟨w.heap.size, 0, none⟩), .int .u64 150] 121))).cell? ⟨0, 0, none⟩ = some (.iface 94 (.agg #[.pointer (some ⟨4, 43, none⟩)])) := HG.out
  clear hc hg ht0 hf0 b2
  go_enter Tryd.func52, Tryd.ntmps52
  go_wp2_with (go_at_call 58; go_must (refine HA.out.mono ?_); rintro e w1 ⟨rfl, hb⟩)
  go_ret
  exact ⟨rfl, (Below.setOld _ HB.out htl).trans (hb.mono (by simp [World.setCell]; omega))⟩

theorem idle27 (a b : Value) (w : World) :
    CallsD Tryd.prog 51 #[a, b] .returning w fun e u' w' => e = .returned (.tuple #[]) ∧ u' = .returning ∧ w' = w := by
  refine callsD_of_wpS Tryd.func51 rfl fun c₀ cs hu => ?_
  apply wpS_seq
  apply wpS_region
  simp [wpOpsS, go_sem, recoverD, hu, Tryd.ntmps51, Exit.thenS]
  refine wpS_cond (t := false) (by simp [Act.eval, Array.replicate]) ?_
  simp only [Bool.false_eq_true, if_false]
  refine wpS_of_wp (wp_skip ?_)
  cases c₀
  simp_all [bodyPostS, results, Tryd.results51]


theorem ErrVar.lt {w : World} (h : ErrVar w) : 0 < w.heap.size := lt_of_cell (a := ⟨0, 0, none⟩) h


theorem two_new (w : World) (a b : Value) (T U : TypeId) :
    ((w.alloc (.cells #[a] T)).alloc (.cells #[b] U)).cell? ⟨w.heap.size, 0, none⟩ = some a ∧ ((w.alloc (.cells #[a] T)).alloc (.cells #[b] U)).cell? ⟨w.heap.size + 1, 0, none⟩ = some b
    ∧ ((w.alloc (.cells #[a] T)).alloc (.cells #[b] U)).frozen? ⟨w.heap.size, 0, none⟩ = false ∧ ((w.alloc (.cells #[a] T)).alloc (.cells #[b] U)).frozen? ⟨w.heap.size + 1, 0, none⟩ = false := by
  refine ⟨by simp, ?_, by simp, ?_⟩
  · rw [World.cell?_alloc_at _ _ _ _ (by simp)]; rfl
  · rw [World.frozen?_alloc_at _ _ _ _ (by simp)]


theorem two_set (w : World) (a b v : Value) (T U : TypeId) :
    (((w.alloc (.cells #[a] T)).alloc (.cells #[b] U)).setCell ⟨w.heap.size, 0, none⟩ v).cell? ⟨w.heap.size, 0, none⟩ = some v ∧ (((w.alloc (.cells #[a] T)).alloc (.cells #[b] U)).setCell ⟨w.heap.size, 0, none⟩ v).cell? ⟨w.heap.size + 1, 0, none⟩ = some b
    ∧ (((w.alloc (.cells #[a] T)).alloc (.cells #[b] U)).setCell ⟨w.heap.size, 0, none⟩ v).frozen? ⟨w.heap.size, 0, none⟩ = false ∧ (((w.alloc (.cells #[a] T)).alloc (.cells #[b] U)).setCell ⟨w.heap.size, 0, none⟩ v).frozen? ⟨w.heap.size + 1, 0, none⟩ = false := by
  obtain ⟨h1, h2, h3, h4⟩ := two_new w a b T U
  refine ⟨World.cell?_setCell_same' _ _ _ (by rw [h1]; rfl), ?_, by rw [World.frozen?_setCell]; exact h3, ?_⟩
  · refine Eq.trans ?_ h2
    exact World.cell?_of_block (Below.heap_setCell _ _ _ _ (by simp))
  · rw [World.frozen?_setCell]; exact h4


set_option maxRecDepth 100000 in
set_option maxHeartbeats 2000000 in
theorem find_num (n : Int) (ts : List ByteArray) (T : TypeId) (d : Value) (w : World) (hg : ErrVar w) (hc : Chain w n ts (.iface T d)) :
    Calls Tryd.prog 40 #[.iface T d] w fun e w' => e = .returned (.tuple #[.int .i64 n, .bool true]) ∧ Below w.heap.size w w' := by
  have hmf : ∀ (fn : Fn) (first cap : Array Value) (w : World), (Instr.makeFunc fn first cap).run Tryd.prog w = .ok (.func fn first cap) w := fun _ _ _ _ => rfl
  have b2 : Below w.heap.size w ((w.alloc (.cells #[.int .i64 0] 29)).alloc (.cells #[.bool false] 4)) := ((Below.refl w.heap.size w).alloc (Nat.le_refl _) _).alloc (by simp) _
  obtain ⟨n0, n1, n2, n3⟩ := two_new w (.int .i64 0) (.bool false) 29 4
  have HA := Lib.hid (as_num n ts T d ⟨w.heap.size, 0, none⟩ (.int .i64 0) ((w.alloc (.cells #[.int .i64 0] 29)).alloc (.cells #[.bool false] 4)) (hg.below (Nat.le_refl _) b2) (hc.below (Nat.le_refl _) b2) n0 n2)
  have HB := Lib.hid b2
  obtain ⟨s0, s1, s2, s3⟩ := two_set w (.int .i64 0) (.bool false) (.int .i64 n) 29 4
  have hsz : (((w.alloc (.cells #[.int .i64 0] 29)).alloc (.cells #[.bool false] 4))).heap.size = w.heap.size + 1 + 1 := by simp
  have HS := Lib.hid (And.intro s0 (And.intro s1 (And.intro s2 (And.intro s3 hsz))))
  clear hg hc b2 n0 n1 n2 n3 s0 s1 s2 s3 hsz
  go_enter_defers Tryd.func40, Tryd.ntmps40
  go_wp2_with fail
  refine HA.out.mono ?_
  rintro e w1 ⟨rfl, hb⟩
  obtain ⟨s0, s1, s2, s3, hsz⟩ := HS.out
  have c0 : w1.cell? ⟨w.heap.size, 0, none⟩ = some (.int .i64 n) := (hb.cell (p := ⟨w.heap.size, 0, none⟩) (by rw [hsz]; simp only; omega)).trans s0
  have c1 : w1.cell? ⟨w.heap.size + 1, 0, none⟩ = some (.bool false) := (hb.cell (p := ⟨w.heap.size + 1, 0, none⟩) (by rw [hsz]; simp only; omega)).trans s1
  have f0 : w1.frozen? ⟨w.heap.size, 0, none⟩ = false := (hb.frozen (p := ⟨w.heap.size, 0, none⟩) (by rw [hsz]; simp only; omega)).trans s2
  have f1 : w1.frozen? ⟨w.heap.size + 1, 0, none⟩ = false := (hb.frozen (p := ⟨w.heap.size + 1, 0, none⟩) (by rw [hsz]; simp only; omega)).trans s3
  have HW : Hid (Below w.heap.size w w1) := Lib.hid ((HB.out.setCell (p := ⟨w.heap.size, 0, none⟩) (Nat.le_refl _) _).trans (hb.mono (by simp; omega)))
  clear hb s0 s1 s2 s3 hsz
  go_wp2
  go_region
  all_goals go_wp2
  all_goals
    refine leaves_cons (f := 51) (args := #[.pointer (some ⟨w.heap.size, 0, none⟩), .pointer (some ⟨w.heap.size + 1, 0, none⟩)]) (by simp) (by simp [go_sem]) ?_
    refine (idle27 _ _ _).mono ?_
    rintro e u' w'' ⟨rfl, rfl, rfl⟩
    simp [Leaves, settle, results, Tryd.results40, go_sem, c0, c1]
    exact (((HW.out.setCell (p := ⟨w.heap.size + 1, 0, none⟩) (by simp) _).setCell (p := ⟨w.heap.size, 0, none⟩) (by simp) _).setCell (p := ⟨w.heap.size + 1, 0, none⟩) (by simp) _).drew


theorem of_nil (w : World) : Calls Tryd.prog 26 #[.nilIface] w fun e w' => e = .returned (.int .i64 0) ∧ w = w' := by
  go_enter Tryd.func26, Tryd.ntmps26
  go_wp2
  go_ret
  exact ⟨rfl, rfl⟩


theorem of_num (n : Int) (ts : List ByteArray) (T : TypeId) (d : Value) (w : World) (hg : ErrVar w) (hc : Chain w n ts (.iface T d)) :
    Calls Tryd.prog 26 #[.iface T d] w fun e w' => e = .returned (.int .i64 n) ∧ Below w.heap.size w w' := by
  have HA := Lib.hid (find_num n ts T d w hg hc)
  clear hg hc
  go_enter Tryd.func26, Tryd.ntmps26
  go_wp2_with (go_at_call 40; go_must (refine HA.out.mono ?_); rintro e w1 ⟨rfl, hb⟩)
  go_ret
  exact ⟨rfl, hb⟩

end Go.Proofs.YtoiekieddkadmaaDoor
