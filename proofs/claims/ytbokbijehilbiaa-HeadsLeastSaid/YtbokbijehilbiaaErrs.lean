/- Package fault's New, errors.Is and fault.Is over chains of faults, whatever the chain, in whatever memory. -/
import Derived.Test.YtbokbijehilbiaaProg
import Derived.WalkKit
import Derived.WalkSpells
import Derived.LaidEql
import Derived.Stop.Asserts
import Derived.RowKitTokens
import Derived.Deep.LoopGhost
import Derived.Deep.DeepMust
import Derived.Deep.DeepFit
import Derived.Lib.Hide
import Derived.Defers
import Derived.Recover
import Derived.RegionTactic
import Derived.ChangeAlike
import Derived.Laws.EntriesVeiled
namespace Go
section
variable {P : Program} (w : World)
theorem run_equalIn_iface_int (d : Nat) {ti tn : TypeId} {ms : Array (String × TypeId)} {i : TypeInfo} {k : IntKind} (a b : Int)
    (hi : P.underlying ti = some (.interface ms)) (hn : P.underlying tn = some (.int k)) (hinfo : P.info? tn = some i) (hcomp : i.comparable = true) :
    (Op.equalIn (d + 2) ti (.iface tn (.int k a)) (.iface tn (.int k b))).run P w = .ok (a == b) w := by
  simp [Op.equalIn, run_underlying hi, run_underlying hn, typeInfo, hinfo, hcomp]
theorem run_eql_iface_int {ti tn : TypeId} {ms : Array (String × TypeId)} {i : TypeInfo} {k : IntKind} (a b : Int)
    (hi : P.underlying ti = some (.interface ms)) (hn : P.underlying tn = some (.int k)) (hinfo : P.info? tn = some i) (hcomp : i.comparable = true) :
    (binOp .eql ti (.iface tn (.int k a)) (.iface tn (.int k b))).run P w = .ok (.bool (a == b)) w := by
  simp only [binOp]
  simp [Op.equal, Op.maxDepth, run_equalIn_iface_int w 9998 a b hi hn hinfo hcomp]
end
end Go
namespace Go.Proofs.Ytbokbijehilbiaa
set_option linter.unusedSimpArgs false
set_option linter.unusedVariables false
open Go.RowKit Go.Extern.Stop Go.Stop Go.Extern

/-- A chain of faults in memory: the texts from the outermost on, then the number. -/
def Chain (w : World) (n : Int) : List ByteArray → Value → Prop
  | [], v => v = .iface 24 (.int .i64 n)
  | t :: ts, v => ∃ a u, v = .iface 44 (.pointer (some ⟨a, 0, none⟩)) ∧ w.cell? ⟨a, 0, none⟩ = some (.string t) ∧ w.cell? ⟨a, 1, none⟩ = some u ∧ w.cell? ⟨a, 2, none⟩ = some (.bool (!ts.isEmpty)) ∧ Chain w n ts u

theorem lt_of_cell {w : World} {a : Addr} {v : Value} (h : w.cell? a = some v) : a.block < w.heap.size := by
  rcases Nat.lt_or_ge a.block w.heap.size with h' | h'
  · exact h'
  · simp [World.cell?, Array.getElem?_eq_none h'] at h

theorem Chain.below {w w' : World} {B : Nat} {n : Int} (hB : w.heap.size ≤ B) (hb : Below B w w') : ∀ {ts : List ByteArray} {v : Value}, Chain w n ts v → Chain w' n ts v
  | [], _, h => h
  | _ :: _, _, ⟨a, u, h1, h2, h3, h4, h5⟩ =>
    ⟨a, u, h1, (hb.cell (p := ⟨a, 0, none⟩) (Nat.lt_of_lt_of_le (lt_of_cell h2) hB)).trans h2, (hb.cell (p := ⟨a, 1, none⟩) (Nat.lt_of_lt_of_le (lt_of_cell h3) hB)).trans h3, (hb.cell (p := ⟨a, 2, none⟩) (Nat.lt_of_lt_of_le (lt_of_cell h4) hB)).trans h4, h5.below hB hb⟩

theorem new_ok (s : ByteArray) (w : World) : Calls Try.prog 17 #[.int .i64 0, .string s] w fun e w' => e = .returned .nilIface ∧ w = w' := by
  go_enter Try.func17, Try.ntmps17
  go_wp2
  go_ret
  exact ⟨rfl, rfl⟩

theorem new_some (n : Int) (s : ByteArray) (w : World) (hn : (n == 0) = false) : Calls Try.prog 17 #[.int .i64 n, .string s] w fun e w' => ∃ v, e = .returned v ∧ Chain w' n [s] v ∧ Below w.heap.size w w' := by
  go_enter Try.func17, Try.ntmps17
  go_wp2
  go_ret
  exact ⟨_, rfl, ⟨_, _, rfl, by simp, by simp, by simp, rfl⟩, (Below.refl _ _).alloc (Nat.le_refl _) _⟩

theorem unwrap_any (a : Nat) (u : Value) (w : World) (h : w.cell? ⟨a, 1, none⟩ = some u) : Calls Try.prog 40 #[.pointer (some ⟨a, 0, none⟩)] w fun e w' => e = .returned u ∧ w = w' := by
  go_enter Try.func40, Try.ntmps40
  go_wp2
  go_ret
  exact ⟨rfl, rfl⟩

theorem typeOf26 (v : Value) (w : World) : (ReflectliteType.typeOf #[.iface 24 v]).run Try.prog w = .ok (.iface 52 (.agg #[.pointer (some ⟨0, 24, none⟩)])) w := by kernel_rfl
theorem ext31 (args : Array Value) (w : World) : (callFunc 21 args).run Try.prog w = (((ReflectliteType.typeOf : Array Value → Sem Value) args).run Try.prog w).andThen fun v w' => .ok (.value v) w' := @run_callFunc_extern Try.prog 21 _ ReflectliteType.typeOf Try.func21 (by kernel_rfl) (by kernel_rfl) (by kernel_rfl) (by kernel_rfl) args w
theorem methodComparable (h : Value) (w : World) : (Go.method 196 52 (.agg #[h]) "Comparable").run Try.prog w = .ok (44, .agg #[h]) w := by kernel_rfl
theorem no43_83 (v : Value) (xT : TypeId) (w : World) : (Instr.typeAssert (.iface 44 v) xT 54 true).run Try.prog w = .ok (.tuple #[.nilIface, .bool false]) w := run_typeAssert_lacksB Try.underlying54 (by kernel_rfl) (by kernel_rfl) v xT w
theorem is_has43_86 (v : Value) (xT : TypeId) (w : World) : (Instr.typeAssert (.iface 44 v) xT 57 true).run Try.prog w = .ok (.tuple #[.iface 44 v, .bool true]) w := run_typeAssert_hasB Try.underlying57 (by kernel_rfl) v xT w
theorem is_no26_83 (v : Value) (xT : TypeId) (w : World) : (Instr.typeAssert (.iface 24 v) xT 54 true).run Try.prog w = .ok (.tuple #[.nilIface, .bool false]) w := run_typeAssert_lacksB Try.underlying54 (by kernel_rfl) (by kernel_rfl) v xT w
theorem is_no26_86 (v : Value) (xT : TypeId) (w : World) : (Instr.typeAssert (.iface 24 v) xT 57 true).run Try.prog w = .ok (.tuple #[.nilIface, .bool false]) w := run_typeAssert_lacksB Try.underlying57 (by kernel_rfl) (by kernel_rfl) v xT w
theorem is_no26_88 (v : Value) (xT : TypeId) (w : World) : (Instr.typeAssert (.iface 24 v) xT 59 true).run Try.prog w = .ok (.tuple #[.nilIface, .bool false]) w := run_typeAssert_lacksB Try.underlying59 (by kernel_rfl) (by kernel_rfl) v xT w
theorem is_methodUnwrap (a : Addr) (w : World) : (Go.method 196 44 (.pointer (some a)) "Unwrap").run Try.prog w = .ok (40, .pointer (some a)) w := by kernel_rfl
theorem comp26 : (Try.prog.info? 24).map (·.comparable) = some true := by kernel_rfl
theorem is_eqlN (a b : Int) (w : World) : (binOp .eql 37 (.iface 24 (.int .i64 a)) (.iface 24 (.int .i64 b))).run Try.prog w = .ok (.bool (a == b)) w := by
  obtain ⟨i, hi, hc⟩ := Option.map_eq_some_iff.1 comp26
  exact run_eql_iface_int w a b Try.underlying37 Try.underlying24 hi hc
theorem is_eqlF (a b : Value) (w : World) : (binOp .eql 37 (.iface 44 a) (.iface 24 b)).run Try.prog w = .ok (.bool false) w :=
  run_eql_iface_types 44 24 a b Try.underlying37 (by decide) w
theorem ext79 (args : Array Value) (w : World) : (callFunc 44 args).run Try.prog w = (((ReflectliteType.method fun t => do Go.Extern.Rtype.noPackHeld "Comparable" t; pure (.bool (← typeInfo t).comparable) : Array Value → Sem Value) args).run Try.prog w).andThen fun v w' => .ok (.value v) w' := @run_callFunc_extern Try.prog 44 _ (ReflectliteType.method fun t => do Go.Extern.Rtype.noPackHeld "Comparable" t; pure (.bool (← typeInfo t).comparable)) Try.func44 (by kernel_rfl) (by kernel_rfl) (by kernel_rfl) (by kernel_rfl) args w
theorem comparable26 (w : World) : ((ReflectliteType.method fun t => do Go.Extern.Rtype.noPackHeld "Comparable" t; (fun a => Value.bool a.comparable) <$> typeInfo t) #[.agg #[.pointer (some ⟨0, 24, none⟩)]]).run Try.prog w = .ok (.bool true) w := by kernel_rfl
theorem is_shape {w : World} {n : Int} : ∀ {ts : List ByteArray} {v : Value}, Chain w n ts v → ∃ T d, v = .iface T d
  | [], _, h => ⟨_, _, h⟩
  | _ :: _, _, ⟨_, _, h, _⟩ => ⟨_, _, h⟩

set_option maxRecDepth 100000 in
set_option maxHeartbeats 4000000 in
theorem is_any (n m : Int) (r : Bool) (hr : (n == m) = r) (ts : List ByteArray) (v : Value) (w : World) (hc : Chain w n ts v) :
    Calls Try.prog 22 #[v, .iface 24 (.int .i64 m), .bool true] w fun e w' => e = .returned (.bool r) ∧ w = w' := by
  have e1 := is_eqlN n m; have e2 := fun a => is_eqlF a (.int .i64 m)
  rw [hr] at e1
  have mU := is_methodUnwrap; have nA := no43_83; have nU := is_has43_86
  have n1 := is_no26_83; have n2 := is_no26_86; have n3 := is_no26_88
  have HC := Lib.hid hc
  clear hc hr
  go_enter Try.func22, Try.ntmps22
  go_wp2_with fail
  go_loopg [0] ts.length (fun k x wr => ∃ us : List ByteArray, us.length ≤ k ∧ Chain wr n us x ∧ w = wr)
  case atStart => exact ⟨ts, Nat.le_refl _, HC.out, rfl⟩
  case round =>
    obtain ⟨us, hl, hcr, rfl⟩ := hrel
    cases us with
    | nil =>
      simp only [Chain] at hcr
      subst hcr
      cases r
      · go_wp2
        go_ret
        exact ⟨rfl, rfl⟩
      · go_wp2
        go_ret
        exact ⟨rfl, rfl⟩
    | cons s us =>
      obtain ⟨a, u, rfl, k0, k1, k2, hcu⟩ := hcr
      obtain ⟨T, d, rfl⟩ := is_shape hcu
      have HU := Lib.hid hcu
      have HL := Lib.hid hl
      clear hcu hl
      go_wp2_with (go_at_call 40; go_must (refine (unwrap_any a (.iface T d) _ k1).mono ?_); rintro e w' ⟨rfl, rfl⟩)
      go_roundg us.length
      case measure => have := HL.out; simp at this; omega
      case rel => exact ⟨us, Nat.le_refl _, HU.out, rfl⟩

set_option maxRecDepth 100000 in
set_option maxHeartbeats 1000000 in
theorem errorsIs (n m : Int) (r : Bool) (hr : (n == m) = r) (ts : List ByteArray) (T : TypeId) (d : Value) (w : World) (hc : Chain w n ts (.iface T d)) :
    Calls Try.prog 20 #[.iface T d, .iface 24 (.int .i64 m)] w fun e w' => e = .returned (.bool r) ∧ w = w' := by
  have h31 := ext31; have h79 := ext79
  have tO := typeOf26; have mC := methodComparable; have cO := comparable26
  have HI := Lib.hid (is_any n m r hr ts (.iface T d) w hc)
  clear hc hr
  go_enter Try.func20, Try.ntmps20
  go_wp2_with (go_at_call 22; go_must (refine HI.out.mono ?_); rintro e w' ⟨rfl, rfl⟩)
  go_ret
  exact ⟨rfl, rfl⟩
theorem idle23 (a : Value) (w : World) :
    CallsD Try.prog 19 #[a] .returning w fun e u' w' => e = .returned (.tuple #[]) ∧ u' = .returning ∧ w' = w := by
  refine callsD_of_wpS Try.func19 rfl fun c₀ cs hu => ?_
  apply wpS_seq
  apply wpS_region
  simp [wpOpsS, go_sem, recoverD, hu, Try.ntmps19, Exit.thenS]
  refine wpS_cond (t := false) (by simp [Act.eval, Array.replicate]) ?_
  simp only [Bool.false_eq_true, if_false]
  refine wpS_of_wp (wp_skip ?_)
  cases c₀
  simp_all [bodyPostS, results, Try.results19]

theorem is_nil (m : Int) (r : Bool) (hr : (m == 0) = r) (w : World) : Calls Try.prog 15 #[.nilIface, .int .i64 m] w fun e w' => e = .returned (.bool r) ∧ Below w.heap.size w w' := by
  go_enter_defers Try.func15, Try.ntmps15
  go_wp2
  simp [bodyPostD, Leaves, settle, results, Try.results15, go_sem]
  exact (Below.refl _ _).alloc (Nat.le_refl _) _

set_option maxRecDepth 100000 in
theorem is_num (n m : Int) (r : Bool) (hr : (n == m) = r) (ts : List ByteArray) (T : TypeId) (d : Value) (w : World) (hc : Chain w n ts (.iface T d)) :
    Calls Try.prog 15 #[.iface T d, .int .i64 m] w fun e w' => e = .returned (.bool r) ∧ Below w.heap.size w w' := by
  have hmf : ∀ (fn : Fn) (first cap : Array Value) (w : World), (Instr.makeFunc fn first cap).run Try.prog w = .ok (.func fn first cap) w := fun _ _ _ _ => rfl
  have b1 : Below w.heap.size w (w.alloc (.cells #[.bool false] 4)) := (Below.refl w.heap.size w).alloc (Nat.le_refl _) _
  have HA := Lib.hid (errorsIs n m r hr ts T d (w.alloc (.cells #[.bool false] 4)) (hc.below (Nat.le_refl _) b1))
  have HB := Lib.hid b1
  clear hr hc b1
  go_enter_defers Try.func15, Try.ntmps15
  go_wp2_with (go_at_call 20; go_must (refine HA.out.mono ?_); rintro e w1 ⟨rfl, rfl⟩)
  refine leaves_cons (f := 19) (args := #[.pointer (some ⟨w.heap.size, 0, none⟩)]) (by simp) (by simp [go_sem]) ?_
  refine (idle23 _ _).mono ?_
  rintro e u' w'' ⟨rfl, rfl, rfl⟩
  simp [Leaves, settle, results, Try.results15, go_sem]
  exact (Below.refl _ _).alloc (Nat.le_refl _) _
end Go.Proofs.Ytbokbijehilbiaa

