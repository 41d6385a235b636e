/- Package fault's find, next, Of and Is over chains of faults. -/
import Derived.Test.YtfekilchomakpaaDoorAsTop
import Derived.Test.YtfekilchomakpaaDoorIs
import Derived.Defers
import Derived.Recover
import Derived.RegionTactic
import Derived.ChangeAlike
import Derived.Laws.EntriesVeiled
namespace Go.Proofs.YtfekilchomakpaaDoor
open Go.RowKit Go.Extern.Stop Go.Stop Go.Extern

theorem idle27 (a b : Value) (w : World) :
    CallsD Tryd.prog 27 #[a, b] .returning w fun e u' w' => e = .returned (.tuple #[]) ∧ u' = .returning ∧ w' = w := by
  refine callsD_of_wpS Tryd.func27 rfl fun c₀ cs hu => ?_
  apply wpS_seq
  apply wpS_region
  simp [wpOpsS, go_sem, recoverD, hu, Tryd.ntmps27, Exit.thenS]
  refine wpS_cond (t := false) (by simp [Act.eval, Array.replicate]) ?_
  simp only [Bool.false_eq_true, if_false]
  refine wpS_of_wp (wp_skip ?_)
  cases c₀
  simp_all [bodyPostS, results, Tryd.results27]

theorem idle33 (a b : Value) (w : World) :
    CallsD Tryd.prog 33 #[a, b] .returning w fun e u' w' => e = .returned (.tuple #[]) ∧ u' = .returning ∧ w' = w := by
  refine callsD_of_wpS Tryd.func33 rfl fun c₀ cs hu => ?_
  apply wpS_seq
  apply wpS_region
  simp [wpOpsS, go_sem, recoverD, hu, Tryd.ntmps33, Exit.thenS]
  refine wpS_cond (t := false) (by simp [Act.eval, Array.replicate]) ?_
  simp only [Bool.false_eq_true, if_false]
  refine wpS_of_wp (wp_skip ?_)
  cases c₀
  simp_all [bodyPostS, results, Tryd.results33]

theorem idle23 (a : Value) (w : World) :
    CallsD Tryd.prog 23 #[a] .returning w fun e u' w' => e = .returned (.tuple #[]) ∧ u' = .returning ∧ w' = w := by
  refine callsD_of_wpS Tryd.func23 rfl fun c₀ cs hu => ?_
  apply wpS_seq
  apply wpS_region
  simp [wpOpsS, go_sem, recoverD, hu, Tryd.ntmps23, Exit.thenS]
  refine wpS_cond (t := false) (by simp [Act.eval, Array.replicate]) ?_
  simp only [Bool.false_eq_true, if_false]
  refine wpS_of_wp (wp_skip ?_)
  cases c₀
  simp_all [bodyPostS, results, Tryd.results23]

theorem ErrVar.lt {w : World} (h : ErrVar w) : 0 < w.heap.size := lt_of_cell (a := ⟨0, 0, none⟩) h

theorem two_new (w : World) (a b : Value) (T U : TypeId) :
    ((w.alloc (.cells #[a] T)).alloc (.cells #[b] U)).cell? ⟨w.heap.size, 0, none⟩ = some a ∧ ((w.alloc (.cells #[a] T)).alloc (.cells #[b] U)).cell? ⟨w.heap.size + 1, 0, none⟩ = some b
    ∧ ((w.alloc (.cells #[a] T)).alloc (.cells #[b] U)).frozen? ⟨w.heap.size, 0, none⟩ = false ∧ ((w.alloc (.cells #[a] T)).alloc (.cells #[b] U)).frozen? ⟨w.heap.size + 1, 0, none⟩ = false := by
  refine ⟨by simp, ?_, by simp, ?_⟩
  · rw [World.cell?_alloc_at _ _ _ _ (by simp)]; rfl
  · rw [World.frozen?_alloc_at _ _ _ _ (by simp)]

theorem two_set (w : World) (a b v : Value) (T U : TypeId) :
    (((w.alloc (.cells #[a] T)).alloc (.cells #[b] U)).setCell ⟨w.heap.size, 0, none⟩ v).cell? ⟨w.heap.size, 0, none⟩ = some v ∧ (((w.alloc (.cells #[a] T)).alloc (.cells #[b] U)).setCell ⟨w.heap.size, 0, none⟩ v).cell? ⟨w.heap.size + 1, 0, none⟩ = some b
    ∧ (((w.alloc (.cells #[a] T)).alloc (.cells #[b] U)).setCell ⟨w.heap.size, 0, none⟩ v).frozen? ⟨w.heap.size, 0, none⟩ = false ∧ (((w.alloc (.cells #[a] T)).alloc (.cells #[b] U)).setCell ⟨w.heap.size, 0, none⟩ v).frozen? ⟨w.heap.size + 1, 0, none⟩ = false := by
  obtain ⟨h1, h2, h3, h4⟩ := two_new w a b T U
  refine ⟨World.cell?_setCell_same' _ _ _ (by rw [h1]; rfl), ?_, by rw [World.frozen?_setCell]; exact h3, ?_⟩
  · refine Eq.trans ?_ h2
    exact World.cell?_of_block (Below.heap_setCell _ _ _ _ (by simp))
  · rw [World.frozen?_setCell]; exact h4

set_option maxRecDepth 100000 in
set_option maxHeartbeats 2000000 in
theorem find_num (n : Int) (ts : List ByteArray) (T : TypeId) (d : Value) (w : World) (hg : ErrVar w) (hc : Chain w n ts (.iface T d)) :
    Calls Tryd.prog 19 #[.iface T d] w fun e w' => e = .returned (.tuple #[.int .i64 n, .bool true]) ∧ Below w.heap.size w w' := by
  have hmf : ∀ (fn : Fn) (first cap : Array Value) (w : World), (Instr.makeFunc fn first cap).run Tryd.prog w = .ok (.func fn first cap) w := fun _ _ _ _ => rfl
  have b2 : Below w.heap.size w ((w.alloc (.cells #[.int .i64 0] 26)).alloc (.cells #[.bool false] 4)) := ((Below.refl w.heap.size w).alloc (Nat.le_refl _) _).alloc (by simp) _
  obtain ⟨n0, n1, n2, n3⟩ := two_new w (.int .i64 0) (.bool false) 26 4
  have HA := Lib.hid (as_num n ts T d ⟨w.heap.size, 0, none⟩ (.int .i64 0) ((w.alloc (.cells #[.int .i64 0] 26)).alloc (.cells #[.bool false] 4)) (hg.below (Nat.le_refl _) b2) (hc.below (Nat.le_refl _) b2) n0 n2)
  have HB := Lib.hid b2
  obtain ⟨s0, s1, s2, s3⟩ := two_set w (.int .i64 0) (.bool false) (.int .i64 n) 26 4
  have hsz : (((w.alloc (.cells #[.int .i64 0] 26)).alloc (.cells #[.bool false] 4))).heap.size = w.heap.size + 1 + 1 := by simp
  have HS := Lib.hid (And.intro s0 (And.intro s1 (And.intro s2 (And.intro s3 hsz))))
  clear hg hc b2 n0 n1 n2 n3 s0 s1 s2 s3 hsz
  go_enter_defers Tryd.func19, Tryd.ntmps19
  go_wp2_with fail
  refine HA.out.mono ?_
  rintro e w1 ⟨rfl, hb⟩
  obtain ⟨s0, s1, s2, s3, hsz⟩ := HS.out
  have c0 : w1.cell? ⟨w.heap.size, 0, none⟩ = some (.int .i64 n) := (hb.cell (p := ⟨w.heap.size, 0, none⟩) (by rw [hsz]; simp only; omega)).trans s0
  have c1 : w1.cell? ⟨w.heap.size + 1, 0, none⟩ = some (.bool false) := (hb.cell (p := ⟨w.heap.size + 1, 0, none⟩) (by rw [hsz]; simp only; omega)).trans s1
  have f0 : w1.frozen? ⟨w.heap.size, 0, none⟩ = false := (hb.frozen (p := ⟨w.heap.size, 0, none⟩) (by rw [hsz]; simp only; omega)).trans s2
  have f1 : w1.frozen? ⟨w.heap.size + 1, 0, none⟩ = false := (hb.frozen (p := ⟨w.heap.size + 1, 0, none⟩) (by rw [hsz]; simp only; omega)).trans s3
  have HW : Hid (Below w.heap.size w w1) := Lib.hid ((HB.out.setCell (p := ⟨w.heap.size, 0, none⟩) (Nat.le_refl _) _).trans (hb.mono (by simp; omega)))
  clear hb s0 s1 s2 s3 hsz
  go_wp2
  go_region
  all_goals go_wp2
  all_goals
    refine leaves_cons (f := 27) (args := #[.pointer (some ⟨w.heap.size, 0, none⟩), .pointer (some ⟨w.heap.size + 1, 0, none⟩)]) (by simp) (by simp [go_sem]) ?_
    refine (idle27 _ _ _).mono ?_
    rintro e u' w'' ⟨rfl, rfl, rfl⟩
    simp [Leaves, settle, results, Tryd.results19, go_sem, c0, c1]
    exact (((HW.out.setCell (p := ⟨w.heap.size + 1, 0, none⟩) (by simp) _).setCell (p := ⟨w.heap.size, 0, none⟩) (by simp) _).setCell (p := ⟨w.heap.size + 1, 0, none⟩) (by simp) _).drew

set_option maxRecDepth 100000 in
set_option maxHeartbeats 2000000 in
theorem find_fault (x : Addr) (w : World) (hg : ErrVar w) :
    Calls Tryd.prog 25 #[.iface 43 (.pointer (some x))] w fun e w' => e = .returned (.tuple #[.pointer (some x), .bool true]) ∧ Below w.heap.size w w' := by
  have hmf : ∀ (fn : Fn) (first cap : Array Value) (w : World), (Instr.makeFunc fn first cap).run Tryd.prog w = .ok (.func fn first cap) w := fun _ _ _ _ => rfl
  have b2 : Below w.heap.size w ((w.alloc (.cells #[.pointer none] 43)).alloc (.cells #[.bool false] 4)) := ((Below.refl w.heap.size w).alloc (Nat.le_refl _) _).alloc (by simp) _
  obtain ⟨n0, n1, n2, n3⟩ := two_new w (.pointer none) (.bool false) 43 4
  have HA := Lib.hid (as_fault x ⟨w.heap.size, 0, none⟩ (.pointer none) ((w.alloc (.cells #[.pointer none] 43)).alloc (.cells #[.bool false] 4)) (hg.below (Nat.le_refl _) b2) n0 n2)
  have HB := Lib.hid b2
  obtain ⟨s0, s1, s2, s3⟩ := two_set w (.pointer none) (.bool false) (.pointer (some x)) 43 4
  have hsz : (((w.alloc (.cells #[.pointer none] 43)).alloc (.cells #[.bool false] 4))).heap.size = w.heap.size + 1 + 1 := by simp
  have HS := Lib.hid (And.intro s0 (And.intro s1 (And.intro s2 (And.intro s3 hsz))))
  clear hg b2 n0 n1 n2 n3 s0 s1 s2 s3 hsz
  go_enter_defers Tryd.func25, Tryd.ntmps25
  go_wp2_with fail
  refine HA.out.mono ?_
  rintro e w1 ⟨rfl, hb⟩
  obtain ⟨s0, s1, s2, s3, hsz⟩ := HS.out
  have c0 : w1.cell? ⟨w.heap.size, 0, none⟩ = some (.pointer (some x)) := (hb.cell (p := ⟨w.heap.size, 0, none⟩) (by rw [hsz]; simp only; omega)).trans s0
  have c1 : w1.cell? ⟨w.heap.size + 1, 0, none⟩ = some (.bool false) := (hb.cell (p := ⟨w.heap.size + 1, 0, none⟩) (by rw [hsz]; simp only; omega)).trans s1
  have f0 : w1.frozen? ⟨w.heap.size, 0, none⟩ = false := (hb.frozen (p := ⟨w.heap.size, 0, none⟩) (by rw [hsz]; simp only; omega)).trans s2
  have f1 : w1.frozen? ⟨w.heap.size + 1, 0, none⟩ = false := (hb.frozen (p := ⟨w.heap.size + 1, 0, none⟩) (by rw [hsz]; simp only; omega)).trans s3
  have HW : Hid (Below w.heap.size w w1) := Lib.hid ((HB.out.setCell (p := ⟨w.heap.size, 0, none⟩) (Nat.le_refl _) _).trans (hb.mono (by simp; omega)))
  clear hb s0 s1 s2 s3 hsz
  go_wp2
  go_region
  all_goals go_wp2
  all_goals
    refine leaves_cons (f := 33) (args := #[.pointer (some ⟨w.heap.size, 0, none⟩), .pointer (some ⟨w.heap.size + 1, 0, none⟩)]) (by simp) (by simp [go_sem]) ?_
    refine (idle33 _ _ _).mono ?_
    rintro e u' w'' ⟨rfl, rfl, rfl⟩
    simp [Leaves, settle, results, Tryd.results25, go_sem, c0, c1]
    exact (((HW.out.setCell (p := ⟨w.heap.size + 1, 0, none⟩) (by simp) _).setCell (p := ⟨w.heap.size, 0, none⟩) (by simp) _).setCell (p := ⟨w.heap.size + 1, 0, none⟩) (by simp) _).drew

set_option maxRecDepth 100000 in
set_option maxHeartbeats 2000000 in
theorem find_no_fault (n : Int) (w : World) (hg : ErrVar w) :
    Calls Tryd.prog 25 #[.iface 26 (.int .i64 n)] w fun e w' => e = .returned (.tuple #[.pointer none, .bool false]) ∧ Below w.heap.size w w' := by
  have hmf : ∀ (fn : Fn) (first cap : Array Value) (w : World), (Instr.makeFunc fn first cap).run Tryd.prog w = .ok (.func fn first cap) w := fun _ _ _ _ => rfl
  have b2 : Below w.heap.size w ((w.alloc (.cells #[.pointer none] 43)).alloc (.cells #[.bool false] 4)) := ((Below.refl w.heap.size w).alloc (Nat.le_refl _) _).alloc (by simp) _
  obtain ⟨n0, n1, n2, n3⟩ := two_new w (.pointer none) (.bool false) 43 4
  have HA := Lib.hid (as_no_fault n ⟨w.heap.size, 0, none⟩ (.pointer none) ((w.alloc (.cells #[.pointer none] 43)).alloc (.cells #[.bool false] 4)) (hg.below (Nat.le_refl _) b2) n0 n2)
  have HB := Lib.hid b2
  obtain ⟨s0, s1, s2, s3⟩ := two_new w (.pointer none) (.bool false) 43 4
  have hsz : (((w.alloc (.cells #[.pointer none] 43)).alloc (.cells #[.bool false] 4))).heap.size = w.heap.size + 1 + 1 := by simp
  have HS := Lib.hid (And.intro s0 (And.intro s1 (And.intro s2 (And.intro s3 hsz))))
  clear hg b2 n0 n1 n2 n3 s0 s1 s2 s3 hsz
  go_enter_defers Tryd.func25, Tryd.ntmps25
  go_wp2_with fail
  refine HA.out.mono ?_
  rintro e w1 ⟨rfl, hb⟩
  obtain ⟨s0, s1, s2, s3, hsz⟩ := HS.out
  have c0 : w1.cell? ⟨w.heap.size, 0, none⟩ = some (.pointer none) := (hb.cell (p := ⟨w.heap.size, 0, none⟩) (by rw [hsz]; simp only; omega)).trans s0
  have c1 : w1.cell? ⟨w.heap.size + 1, 0, none⟩ = some (.bool false) := (hb.cell (p := ⟨w.heap.size + 1, 0, none⟩) (by rw [hsz]; simp only; omega)).trans s1
  have f0 : w1.frozen? ⟨w.heap.size, 0, none⟩ = false := (hb.frozen (p := ⟨w.heap.size, 0, none⟩) (by rw [hsz]; simp only; omega)).trans s2
  have f1 : w1.frozen? ⟨w.heap.size + 1, 0, none⟩ = false := (hb.frozen (p := ⟨w.heap.size + 1, 0, none⟩) (by rw [hsz]; simp only; omega)).trans s3
  have HW : Hid (Below w.heap.size w w1) := Lib.hid (HB.out.trans (hb.mono (by simp; omega)))
  clear hb s0 s1 s2 s3 hsz
  go_wp2
  go_region
  all_goals go_wp2
  all_goals
    refine leaves_cons (f := 33) (args := #[.pointer (some ⟨w.heap.size, 0, none⟩), .pointer (some ⟨w.heap.size + 1, 0, none⟩)]) (by simp) (by simp [go_sem]) ?_
    refine (idle33 _ _ _).mono ?_
    rintro e u' w'' ⟨rfl, rfl, rfl⟩
    simp [Leaves, settle, results, Tryd.results25, go_sem, c0, c1]
    exact (((HW.out.setCell (p := ⟨w.heap.size + 1, 0, none⟩) (by simp) _).setCell (p := ⟨w.heap.size, 0, none⟩) (by simp) _).setCell (p := ⟨w.heap.size + 1, 0, none⟩) (by simp) _).drew

theorem next_fault (x : Addr) (w : World) (hg : ErrVar w) : Calls Tryd.prog 17 #[.iface 43 (.pointer (some x))] w fun e w' => e = .returned (.pointer (some x)) ∧ Below w.heap.size w w' := by
  have HA := Lib.hid (find_fault x w hg)
  clear hg
  go_enter Tryd.func17, Tryd.ntmps17
  go_wp2_with (go_at_call 25; go_must (refine HA.out.mono ?_); rintro e w1 ⟨rfl, hb⟩)
  go_ret
  exact ⟨rfl, hb⟩

theorem next_none (n : Int) (w : World) (hg : ErrVar w) : Calls Tryd.prog 17 #[.iface 26 (.int .i64 n)] w fun e w' => e = .returned (.pointer none) ∧ Below w.heap.size w w' := by
  have HA := Lib.hid (find_no_fault n w hg)
  clear hg
  go_enter Tryd.func17, Tryd.ntmps17
  go_wp2_with (go_at_call 25; go_must (refine HA.out.mono ?_); rintro e w1 ⟨rfl, hb⟩)
  go_ret
  exact ⟨rfl, hb⟩

theorem of_nil (w : World) : Calls Tryd.prog 14 #[.nilIface] w fun e w' => e = .returned (.int .i64 0) ∧ w = w' := by
  go_enter Tryd.func14, Tryd.ntmps14
  go_wp2
  go_ret
  exact ⟨rfl, rfl⟩

theorem of_num (n : Int) (ts : List ByteArray) (T : TypeId) (d : Value) (w : World) (hg : ErrVar w) (hc : Chain w n ts (.iface T d)) :
    Calls Tryd.prog 14 #[.iface T d] w fun e w' => e = .returned (.int .i64 n) ∧ Below w.heap.size w w' := by
  have HA := Lib.hid (find_num n ts T d w hg hc)
  clear hg hc
  go_enter Tryd.func14, Tryd.ntmps14
  go_wp2_with (go_at_call 19; go_must (refine HA.out.mono ?_); rintro e w1 ⟨rfl, hb⟩)
  go_ret
  exact ⟨rfl, hb⟩

theorem is_nil (m : Int) (r : Bool) (hr : (m == 0) = r) (w : World) : Calls Tryd.prog 15 #[.nilIface, .int .i64 m] w fun e w' => e = .returned (.bool r) ∧ Below w.heap.size w w' := by
  go_enter_defers Tryd.func15, Tryd.ntmps15
  go_wp2
  simp [bodyPostD, Leaves, settle, results, Tryd.results15, go_sem]
  exact (Below.refl _ _).alloc (Nat.le_refl _) _

set_option maxRecDepth 100000 in
theorem is_num (n m : Int) (r : Bool) (hr : (n == m) = r) (ts : List ByteArray) (T : TypeId) (d : Value) (w : World) (hc : Chain w n ts (.iface T d)) :
    Calls Tryd.prog 15 #[.iface T d, .int .i64 m] w fun e w' => e = .returned (.bool r) ∧ Below w.heap.size w w' := by
  have hmf : ∀ (fn : Fn) (first cap : Array Value) (w : World), (Instr.makeFunc fn first cap).run Tryd.prog w = .ok (.func fn first cap) w := fun _ _ _ _ => rfl
  have b1 : Below w.heap.size w (w.alloc (.cells #[.bool false] 4)) := (Below.refl w.heap.size w).alloc (Nat.le_refl _) _
  have HA := Lib.hid (errorsIs n m r hr ts T d (w.alloc (.cells #[.bool false] 4)) (hc.below (Nat.le_refl _) b1))
  have HB := Lib.hid b1
  clear hr hc b1
  go_enter_defers Tryd.func15, Tryd.ntmps15
  go_wp2_with (go_at_call 24; go_must (refine HA.out.mono ?_); rintro e w1 ⟨rfl, rfl⟩)
  refine leaves_cons (f := 23) (args := #[.pointer (some ⟨w.heap.size, 0, none⟩)]) (by simp) (by simp [go_sem]) ?_
  refine (idle23 _ _).mono ?_
  rintro e u' w'' ⟨rfl, rfl, rfl⟩
  simp [Leaves, settle, results, Tryd.results15, go_sem]
  exact (Below.refl _ _).alloc (Nat.le_refl _) _
end Go.Proofs.YtfekilchomakpaaDoor
