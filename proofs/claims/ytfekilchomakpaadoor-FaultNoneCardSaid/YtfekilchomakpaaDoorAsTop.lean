/- errors.As at a pointer to a number and at a pointer to a fault, over chains of faults. -/
import Derived.Test.YtfekilchomakpaaDoorAs
namespace Go.Proofs.YtfekilchomakpaaDoor
open Go.RowKit Go.Extern.Stop Go.Stop Go.Extern

theorem asNil (t : Value) (w : World) :
    Calls Tryd.prog 28 #[.nilIface, t] w fun e w' => e = .returned (.bool false) ∧ w = w' := by
  go_enter Tryd.func28, Tryd.ntmps28
  go_wp2
  go_ret
  exact ⟨rfl, rfl⟩

/-- What errors.As reads of the package's own variable. -/
def ErrVar (w : World) : Prop := w.cell? ⟨0, 0, none⟩ = some (.iface 81 (.agg #[.pointer (some ⟨4, 28, none⟩)]))
theorem ErrVar.below {w w' : World} {B : Nat} (hB : w.heap.size ≤ B) (hb : Below B w w') (h : ErrVar w) : ErrVar w' :=
  (hb.cell (p := ⟨0, 0, none⟩) (Nat.lt_of_lt_of_le (lt_of_cell (a := ⟨0, 0, none⟩) h) hB)).trans h

set_option maxRecDepth 100000 in
set_option maxHeartbeats 2000000 in
theorem as_num (n : Int) (ts : List ByteArray) (T : TypeId) (d : Value) (t : Addr) (old : Value) (w : World) (hg : ErrVar w) (hc : Chain w n ts (.iface T d)) (ht0 : w.cell? t = some old) (hf0 : w.frozen? t = false) :
    Calls Tryd.prog 28 #[.iface T d, .iface 61 (.pointer (some t))] w fun e w' => e = .returned (.bool true) ∧ Below w.heap.size (w.setCell t (.int .i64 n)) w' := by
  have h35 := ext35; have h36 := ext36; have h37 := ext37; have h67 := ext67; have h80 := ext80; have h81 := ext81
  have mK := methodKind; have mE := methodElem; have mI := methodImplements
  have vO := valueOf61
  have tO := type61
  have k1 := kind61; have k2 := kind26
  have eO := elem61
  have iO := implements26
  have htl := lt_of_cell ht0
  have b2 : Below w.heap.size w ((w.alloc (.cells #[.pointer (some t)] 61)).alloc (.cells #[.pointer (some ⟨4, 61, none⟩), .pointer (some ⟨w.heap.size, 0, none⟩), .int .u64 150] 72)) := ((Below.refl w.heap.size w).alloc (Nat.le_refl _) _).alloc (by simp) _
  have HB := Lib.hid b2
  have HG := Lib.hid (hg.below (Nat.le_refl _) b2)
  have nO := isNil61 ⟨w.heap.size, 0, none⟩ t ((w.alloc (.cells #[.pointer (some t)] 61)).alloc (.cells #[.pointer (some ⟨4, 61, none⟩), .pointer (some ⟨w.heap.size, 0, none⟩), .int .u64 150] 72)) (by rw [World.cell?_alloc_lt _ _ ⟨w.heap.size, 0, none⟩ (by simp)]; simp)
  have HA := Lib.hid (as26 n ts (.iface T d) ⟨w.heap.size, 0, none⟩ t old ((w.alloc (.cells #[.pointer (some t)] 61)).alloc (.cells #[.pointer (some ⟨4, 61, none⟩), .pointer (some ⟨w.heap.size, 0, none⟩), .int .u64 150] 72)) (hc.below (Nat.le_refl _) b2) (by rw [World.cell?_alloc_lt _ _ ⟨w.heap.size, 0, none⟩ (by simp)]; simp) ((b2.cell htl).trans ht0) ((b2.frozen htl).trans hf0))
  have hg2 : (((w.alloc (.cells #[.pointer (some t)] 61)).alloc (.cells #[.pointer (some ⟨4, 61, none⟩), .pointer (some ⟨w.heap.size, 0, none⟩), .int .u64 150] 72))).cell? ⟨0, 0, none⟩ = some (.iface 81 (.agg #[.pointer (some ⟨4, 28, none⟩)])) := HG.out
  clear hc hg ht0 hf0 b2
  go_enter Tryd.func28, Tryd.ntmps28
  go_wp2_with (go_at_call 38; go_must (refine HA.out.mono ?_); rintro e w1 ⟨rfl, hb⟩)
  go_ret
  exact ⟨rfl, (Below.setOld _ HB.out htl).trans (hb.mono (by simp [World.setCell]; omega))⟩

set_option maxRecDepth 100000 in
set_option maxHeartbeats 2000000 in
theorem as_fault (x : Addr) (t : Addr) (old : Value) (w : World) (hg : ErrVar w) (ht0 : w.cell? t = some old) (hf0 : w.frozen? t = false) :
    Calls Tryd.prog 28 #[.iface 43 (.pointer (some x)), .iface 67 (.pointer (some t))] w fun e w' => e = .returned (.bool true) ∧ Below w.heap.size (w.setCell t (.pointer (some x))) w' := by
  have h35 := ext35; have h36 := ext36; have h37 := ext37; have h67 := ext67; have h80 := ext80; have h81 := ext81
  have mK := methodKind; have mE := methodElem; have mI := methodImplements
  have vO := valueOf67
  have tO := type67
  have k1 := kind67; have k2 := kind43
  have eO := elem67
  have iO := implements43
  have htl := lt_of_cell ht0
  have b2 : Below w.heap.size w ((w.alloc (.cells #[.pointer (some t)] 67)).alloc (.cells #[.pointer (some ⟨4, 67, none⟩), .pointer (some ⟨w.heap.size, 0, none⟩), .int .u64 150] 72)) := ((Below.refl w.heap.size w).alloc (Nat.le_refl _) _).alloc (by simp) _
  have HB := Lib.hid b2
  have HG := Lib.hid (hg.below (Nat.le_refl _) b2)
  have nO := isNil67 ⟨w.heap.size, 0, none⟩ t ((w.alloc (.cells #[.pointer (some t)] 67)).alloc (.cells #[.pointer (some ⟨4, 67, none⟩), .pointer (some ⟨w.heap.size, 0, none⟩), .int .u64 150] 72)) (by rw [World.cell?_alloc_lt _ _ ⟨w.heap.size, 0, none⟩ (by simp)]; simp)
  have HA := Lib.hid (as43_hit x ⟨w.heap.size, 0, none⟩ t old ((w.alloc (.cells #[.pointer (some t)] 67)).alloc (.cells #[.pointer (some ⟨4, 67, none⟩), .pointer (some ⟨w.heap.size, 0, none⟩), .int .u64 150] 72)) (by rw [World.cell?_alloc_lt _ _ ⟨w.heap.size, 0, none⟩ (by simp)]; simp) ((b2.cell htl).trans ht0) ((b2.frozen htl).trans hf0))
  have hg2 : (((w.alloc (.cells #[.pointer (some t)] 67)).alloc (.cells #[.pointer (some ⟨4, 67, none⟩), .pointer (some ⟨w.heap.size, 0, none⟩), .int .u64 150] 72))).cell? ⟨0, 0, none⟩ = some (.iface 81 (.agg #[.pointer (some ⟨4, 28, none⟩)])) := HG.out
  clear hg ht0 hf0 b2
  go_enter Tryd.func28, Tryd.ntmps28
  go_wp2_with (go_at_call 38; go_must (refine HA.out.mono ?_); rintro e w1 ⟨rfl, hb⟩)
  go_ret
  exact ⟨rfl, (Below.setOld _ HB.out htl).trans (hb.mono (by simp [World.setCell]; omega))⟩

set_option maxRecDepth 100000 in
set_option maxHeartbeats 2000000 in
theorem as_no_fault (n : Int) (t : Addr) (old : Value) (w : World) (hg : ErrVar w) (ht0 : w.cell? t = some old) (hf0 : w.frozen? t = false) :
    Calls Tryd.prog 28 #[.iface 26 (.int .i64 n), .iface 67 (.pointer (some t))] w fun e w' => e = .returned (.bool false) ∧ Below w.heap.size w w' := by
  have h35 := ext35; have h36 := ext36; have h37 := ext37; have h67 := ext67; have h80 := ext80; have h81 := ext81
  have mK := methodKind; have mE := methodElem; have mI := methodImplements
  have vO := valueOf67
  have tO := type67
  have k1 := kind67; have k2 := kind43
  have eO := elem67
  have iO := implements43
  have htl := lt_of_cell ht0
  have b2 : Below w.heap.size w ((w.alloc (.cells #[.pointer (some t)] 67)).alloc (.cells #[.pointer (some ⟨4, 67, none⟩), .pointer (some ⟨w.heap.size, 0, none⟩), .int .u64 150] 72)) := ((Below.refl w.heap.size w).alloc (Nat.le_refl _) _).alloc (by simp) _
  have HB := Lib.hid b2
  have HG := Lib.hid (hg.below (Nat.le_refl _) b2)
  have nO := isNil67 ⟨w.heap.size, 0, none⟩ t ((w.alloc (.cells #[.pointer (some t)] 67)).alloc (.cells #[.pointer (some ⟨4, 67, none⟩), .pointer (some ⟨w.heap.size, 0, none⟩), .int .u64 150] 72)) (by rw [World.cell?_alloc_lt _ _ ⟨w.heap.size, 0, none⟩ (by simp)]; simp)
  have HA := Lib.hid (as43_miss n ⟨w.heap.size, 0, none⟩ t ((w.alloc (.cells #[.pointer (some t)] 67)).alloc (.cells #[.pointer (some ⟨4, 67, none⟩), .pointer (some ⟨w.heap.size, 0, none⟩), .int .u64 150] 72)))
  have hg2 : (((w.alloc (.cells #[.pointer (some t)] 67)).alloc (.cells #[.pointer (some ⟨4, 67, none⟩), .pointer (some ⟨w.heap.size, 0, none⟩), .int .u64 150] 72))).cell? ⟨0, 0, none⟩ = some (.iface 81 (.agg #[.pointer (some ⟨4, 28, none⟩)])) := HG.out
  clear hg ht0 hf0 b2
  go_enter Tryd.func28, Tryd.ntmps28
  go_wp2_with (go_at_call 38; go_must (refine HA.out.mono ?_); rintro e w1 ⟨rfl, hb⟩)
  go_ret
  exact ⟨rfl, HB.out.trans (hb.mono (by simp; omega))⟩
end Go.Proofs.YtfekilchomakpaaDoor
