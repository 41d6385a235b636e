/- errors.As and errors.as at chains of faults: the number is found however deep; the outermost fault is found at once. -/
import Derived.Test.YtoiekieddkadmaaDoorEa
namespace Go.Proofs.YtoiekieddkadmaaDoor
set_option linter.unusedSimpArgs false
set_option linter.unusedVariables false
open Go.RowKit Go.Extern.Stop Go.Stop Go.Extern

theorem no43_93 (v : Value) (xT : TypeId) (w : World) : (Instr.typeAssert (.iface 75 v) xT 136 true).run Tryd.prog w = .ok (.tuple #[.nilIface, .bool false]) w := run_typeAssert_lacksB Tryd.underlying136 (by kernel_rfl) (by kernel_rfl) v xT w
theorem has43_86 (v : Value) (xT : TypeId) (w : World) : (Instr.typeAssert (.iface 75 v) xT 99 true).run Tryd.prog w = .ok (.tuple #[.iface 75 v, .bool true]) w := run_typeAssert_hasB Tryd.underlying99 (by kernel_rfl) v xT w
theorem no26_93 (v : Value) (xT : TypeId) (w : World) : (Instr.typeAssert (.iface 29 v) xT 136 true).run Tryd.prog w = .ok (.tuple #[.nilIface, .bool false]) w := run_typeAssert_lacksB Tryd.underlying136 (by kernel_rfl) (by kernel_rfl) v xT w
theorem no26_86 (v : Value) (xT : TypeId) (w : World) : (Instr.typeAssert (.iface 29 v) xT 99 true).run Tryd.prog w = .ok (.tuple #[.nilIface, .bool false]) w := run_typeAssert_lacksB Tryd.underlying99 (by kernel_rfl) (by kernel_rfl) v xT w
theorem no26_88 (v : Value) (xT : TypeId) (w : World) : (Instr.typeAssert (.iface 29 v) xT 101 true).run Tryd.prog w = .ok (.tuple #[.nilIface, .bool false]) w := run_typeAssert_lacksB Tryd.underlying101 (by kernel_rfl) (by kernel_rfl) v xT w
theorem methodUnwrap (a : Addr) (w : World) : (Go.method 275 75 (.pointer (some a)) "Unwrap").run Tryd.prog w = .ok (92, .pointer (some a)) w := by kernel_rfl
theorem Chain.shape {w : World} {n : Int} : ∀ {ts : List ByteArray} {v : Value}, Chain w n ts v → ∃ T d, v = .iface T d
  | [], _, h => ⟨_, _, h⟩
  | _ :: _, _, ⟨_, _, h, _⟩ => ⟨_, _, h⟩

theorem Below.setOld {w w1 : World} {t : Addr} (v : Value) (hb : Below w.heap.size w w1) (_ht : t.block < w.heap.size) : Below w.heap.size (w.setCell t v) (w1.setCell t v) :=
  ⟨hb.os, hb.tape, hb.output, by simpa [World.setCell] using hb.size, fun k hk => by
    simp only [World.setCell, Array.getElem?_modify]
    rw [hb.block k hk]⟩

set_option maxRecDepth 100000 in
set_option maxHeartbeats 4000000 in
theorem as26 (n : Int) (ts : List ByteArray) (v : Value) (va t : Addr) (old : Value) (w : World) (hc : Chain w n ts v) (hva : w.cell? va = some (.pointer (some t))) (ht0 : w.cell? t = some old) (hf0 : w.frozen? t = false) :
    Calls Tryd.prog 58 #[v, .iface 115 (.pointer (some t)), .agg #[.pointer (some ⟨4, 115, none⟩), .pointer (some va), .int .u64 150], .iface 94 (.agg #[.pointer (some ⟨4, 29, none⟩)])] w fun e w' => e = .returned (.bool true) ∧ Below w.heap.size (w.setCell t (.int .i64 n)) w' := by
  have h31 := ext31; have h78 := ext78; have h40 := ext40; have h35 := ext35; have h41 := ext41
  have mA := methodAssignableTo; have mU := methodUnwrap; have nA := no43_93; have nU := has43_86
  have tO := typeOf26
  have tP := typeOf43
  have aS := assignable26_26
  have aT := assignable43_26
  have vO := valueOf26
  have hvl := lt_of_cell hva
  have htl := lt_of_cell ht0
  have b0 : Below w.heap.size w (w.alloc (.cells #[.pointer (some ⟨4, 115, none⟩), .pointer (some va), .int .u64 150] 121)) := (Below.refl _ _).alloc (Nat.le_refl _) _
  have HC := Lib.hid (hc.below (Nat.le_refl _) b0)
  have B0 := Lib.hid b0
  have HV := Lib.hid hva; have HT := Lib.hid ht0; have HF := Lib.hid hf0
  have HB : (w.alloc (.cells #[.pointer (some ⟨4, 115, none⟩), .pointer (some va), .int .u64 150] 121)).heap.size = w.heap.size + 1 := by simp
  have HBH := Lib.hid HB
  clear hc hva ht0 hf0 b0 HB
  go_enter Tryd.func58, Tryd.ntmps58
  go_wp2_with fail
  go_loopg [0] ts.length (fun k x wr => ∃ us : List ByteArray, us.length ≤ k ∧ Chain wr n us x ∧ Below (w.heap.size + 1) (w.alloc (.cells #[.pointer (some ⟨4, 115, none⟩), .pointer (some va), .int .u64 150] 121)) wr)
  case atStart => exact ⟨ts, Nat.le_refl _, HC.out, Below.refl _ _⟩
  case round =>
    obtain ⟨us, hl, hcr, hbr⟩ := hrel
    have hsz : w.heap.size < wr.heap.size := by have := hbr.size; have := HBH.out; omega
    have c0 : wr.cell? ⟨w.heap.size, 0, none⟩ = some (.pointer (some ⟨4, 115, none⟩)) := (hbr.cell (p := ⟨w.heap.size, 0, none⟩) (Nat.lt_succ_self _)).trans (by simp)
    have c1 : wr.cell? ⟨w.heap.size, 1, none⟩ = some (.pointer (some va)) := (hbr.cell (p := ⟨w.heap.size, 1, none⟩) (Nat.lt_succ_self _)).trans (by simp)
    have c2 : wr.cell? ⟨w.heap.size, 2, none⟩ = some (.int .u64 150) := (hbr.cell (p := ⟨w.heap.size, 2, none⟩) (Nat.lt_succ_self _)).trans (by simp)
    cases us with
    | nil =>
      simp only [Chain] at hcr
      subst hcr
      have hb2 : Below w.heap.size w wr := B0.out.trans (hbr.mono (Nat.le_succ _))
      have hva' : wr.cell? va = some (.pointer (some t)) := (hb2.cell hvl).trans HV.out
      have ht' : wr.cell? t = some old := (hb2.cell htl).trans HT.out
      have hf' : wr.frozen? t = false := (hb2.frozen htl).trans HF.out
      have el := elemV61 va t wr hva'
      have st := set26 t ⟨wr.heap.size, 0, none⟩ n old (wr.alloc (.cells #[.int .i64 n] 29)) (by rw [World.cell?_alloc_at _ _ _ _ rfl]; rfl) (by rw [World.cell?_alloc_lt _ _ t (by omega)]; exact ht') (by rw [World.frozen?_alloc_old _ _ t (by omega)]; exact hf')
      have HE : Hid (Below w.heap.size (w.setCell t (.int .i64 n)) ((wr.alloc (.cells #[.int .i64 n] 29)).setCell t (.int .i64 n))) := Lib.hid (Below.setOld _ (hb2.alloc (Nat.le_of_lt hsz) _) htl)
      clear hva' ht' hf' hb2 hbr
      go_wp2
      go_ret
      exact ⟨rfl, HE.out⟩
    | cons s us =>
      obtain ⟨a, u, rfl, k0, k1, k2, hcu⟩ := hcr
      obtain ⟨T, d, rfl⟩ := hcu.shape
      have HU := Lib.hid hcu
      have HR := Lib.hid hbr
      have HL := Lib.hid hl
      clear hcu hbr hl
      go_wp2_with (go_at_call 92; go_must (refine (unwrap_any a (.iface T d) _ k1).mono ?_); rintro e w' ⟨rfl, rfl⟩)
      go_roundg us.length
      case measure => have := HL.out; simp at this; omega
      case rel => exact ⟨us, Nat.le_refl _, HU.out, HR.out⟩

end Go.Proofs.YtoiekieddkadmaaDoor
