/- errors.Is and errors.is over chains of faults, asked for a number: whether it is the chain's own; the world is as it was. -/
import Derived.Test.YtoiekieddkadmaaDoorEc
namespace Go.Proofs.YtoiekieddkadmaaDoor
set_option linter.unusedSimpArgs false
set_option linter.unusedVariables false
open Go.RowKit Go.Extern.Stop Go.Stop Go.Extern
theorem methodComparable (h : Value) (w : World) : (Go.method 275 94 (.agg #[h]) "Comparable").run Tryd.prog w = .ok (95, .agg #[h]) w := by kernel_rfl
theorem no43_83 (v : Value) (xT : TypeId) (w : World) : (Instr.typeAssert (.iface 75 v) xT 96 true).run Tryd.prog w = .ok (.tuple #[.nilIface, .bool false]) w := run_typeAssert_lacksB Tryd.underlying96 (by kernel_rfl) (by kernel_rfl) v xT w
theorem is_has43_86 (v : Value) (xT : TypeId) (w : World) : (Instr.typeAssert (.iface 75 v) xT 99 true).run Tryd.prog w = .ok (.tuple #[.iface 75 v, .bool true]) w := run_typeAssert_hasB Tryd.underlying99 (by kernel_rfl) v xT w
theorem is_no26_83 (v : Value) (xT : TypeId) (w : World) : (Instr.typeAssert (.iface 29 v) xT 96 true).run Tryd.prog w = .ok (.tuple #[.nilIface, .bool false]) w := run_typeAssert_lacksB Tryd.underlying96 (by kernel_rfl) (by kernel_rfl) v xT w
theorem is_no26_86 (v : Value) (xT : TypeId) (w : World) : (Instr.typeAssert (.iface 29 v) xT 99 true).run Tryd.prog w = .ok (.tuple #[.nilIface, .bool false]) w := run_typeAssert_lacksB Tryd.underlying99 (by kernel_rfl) (by kernel_rfl) v xT w
theorem is_no26_88 (v : Value) (xT : TypeId) (w : World) : (Instr.typeAssert (.iface 29 v) xT 101 true).run Tryd.prog w = .ok (.tuple #[.nilIface, .bool false]) w := run_typeAssert_lacksB Tryd.underlying101 (by kernel_rfl) (by kernel_rfl) v xT w
theorem is_methodUnwrap (a : Addr) (w : World) : (Go.method 275 75 (.pointer (some a)) "Unwrap").run Tryd.prog w = .ok (92, .pointer (some a)) w := by kernel_rfl
theorem comp26 : (Tryd.prog.info? 29).map (·.comparable) = some true := by kernel_rfl
theorem is_eqlN (a b : Int) (w : World) : (binOp .eql 43 (.iface 29 (.int .i64 a)) (.iface 29 (.int .i64 b))).run Tryd.prog w = .ok (.bool (a == b)) w := by
  obtain ⟨i, hi, hc⟩ := Option.map_eq_some_iff.1 comp26
  exact run_eql_iface_int w a b Tryd.underlying43 Tryd.underlying29 hi hc
theorem is_eqlF (a b : Value) (w : World) : (binOp .eql 43 (.iface 75 a) (.iface 29 b)).run Tryd.prog w = .ok (.bool false) w :=
  run_eql_iface_types 75 29 a b Tryd.underlying43 (by decide) w
theorem ext79 (args : Array Value) (w : World) : (callFunc 95 args).run Tryd.prog w = (((ReflectliteType.method fun t => do Go.Extern.Rtype.noPackHeld "Comparable" t; pure (.bool (← typeInfo t).comparable) : Array Value → Sem Value) args).run Tryd.prog w).andThen fun v w' => .ok (.value v) w' := @run_callFunc_extern Tryd.prog 95 _ (ReflectliteType.method fun t => do Go.Extern.Rtype.noPackHeld "Comparable" t; pure (.bool (← typeInfo t).comparable)) Tryd.func95 (by kernel_rfl) (by kernel_rfl) (by kernel_rfl) (by kernel_rfl) args w
theorem comparable26 (w : World) : ((ReflectliteType.method fun t => do Go.Extern.Rtype.noPackHeld "Comparable" t; (fun a => Value.bool a.comparable) <$> typeInfo t) #[.agg #[.pointer (some ⟨4, 29, none⟩)]]).run Tryd.prog w = .ok (.bool true) w := by kernel_rfl
theorem is_shape {w : World} {n : Int} : ∀ {ts : List ByteArray} {v : Value}, Chain w n ts v → ∃ T d, v = .iface T d
  | [], _, h => ⟨_, _, h⟩
  | _ :: _, _, ⟨_, _, h, _⟩ => ⟨_, _, h⟩

set_option maxRecDepth 100000 in
set_option maxHeartbeats 4000000 in
theorem is_any (n m : Int) (r : Bool) (hr : (n == m) = r) (ts : List ByteArray) (v : Value) (w : World) (hc : Chain w n ts v) :
    Calls Tryd.prog 32 #[v, .iface 29 (.int .i64 m), .bool true] w fun e w' => e = .returned (.bool r) ∧ w = w' := by
  have e1 := is_eqlN n m; have e2 := fun a => is_eqlF a (.int .i64 m)
  rw [hr] at e1
  have mU := is_methodUnwrap; have nA := no43_83; have nU := is_has43_86
  have n1 := is_no26_83; have n2 := is_no26_86; have n3 := is_no26_88
  have HC := Lib.hid hc
  clear hc hr
  go_enter Tryd.func32, Tryd.ntmps32
  go_wp2_with fail
  go_loopg [0] ts.length (fun k x wr => ∃ us : List ByteArray, us.length ≤ k ∧ Chain wr n us x ∧ w = wr)
  case atStart => exact ⟨ts, Nat.le_refl _, HC.out, rfl⟩
  case round =>
    obtain ⟨us, hl, hcr, rfl⟩ := hrel
    cases us with
    | nil =>
      simp only [Chain] at hcr
      subst hcr
      cases r
      · go_wp2
        go_ret
        exact ⟨rfl, rfl⟩
      · go_wp2
        go_ret
        exact ⟨rfl, rfl⟩
    | cons s us =>
      obtain ⟨a, u, rfl, k0, k1, k2, hcu⟩ := hcr
      obtain ⟨T, d, rfl⟩ := is_shape hcu
      have HU := Lib.hid hcu
      have HL := Lib.hid hl
      clear hcu hl
      go_wp2_with (go_at_call 92; go_must (refine (unwrap_any a (.iface T d) _ k1).mono ?_); rintro e w' ⟨rfl, rfl⟩)
      go_roundg us.length
      case measure => have := HL.out; simp at this; omega
      case rel => exact ⟨us, Nat.le_refl _, HU.out, rfl⟩

set_option maxRecDepth 100000 in
set_option maxHeartbeats 1000000 in
theorem errorsIs (n m : Int) (r : Bool) (hr : (n == m) = r) (ts : List ByteArray) (T : TypeId) (d : Value) (w : World) (hc : Chain w n ts (.iface T d)) :
    Calls Tryd.prog 21 #[.iface T d, .iface 29 (.int .i64 m)] w fun e w' => e = .returned (.bool r) ∧ w = w' := by
  have h31 := ext31; have h79 := ext79
  have tO := typeOf26; have mC := methodComparable; have cO := comparable26
  have HI := Lib.hid (is_any n m r hr ts (.iface T d) w hc)
  clear hc hr
  go_enter Tryd.func21, Tryd.ntmps21
  go_wp2_with (go_at_call 32; go_must (refine HI.out.mono ?_); rintro e w' ⟨rfl, rfl⟩)
  go_ret
  exact ⟨rfl, rfl⟩
theorem idle23 (a : Value) (w : World) :
    CallsD Tryd.prog 20 #[a] .returning w fun e u' w' => e = .returned (.tuple #[]) ∧ u' = .returning ∧ w' = w := by
  refine callsD_of_wpS Tryd.func20 rfl fun c₀ cs hu => ?_
  apply wpS_seq
  apply wpS_region
  simp [wpOpsS, go_sem, recoverD, hu, Tryd.ntmps20, Exit.thenS]
  refine wpS_cond (t := false) (by simp [Act.eval, Array.replicate]) ?_
  simp only [Bool.false_eq_true, if_false]
  refine wpS_of_wp (wp_skip ?_)
  cases c₀
  simp_all [bodyPostS, results, Tryd.results20]

theorem is_nil (m : Int) (r : Bool) (hr : (m == 0) = r) (w : World) : Calls Tryd.prog 9 #[.nilIface, .int .i64 m] w fun e w' => e = .returned (.bool r) ∧ Below w.heap.size w w' := by
  go_enter_defers Tryd.func9, Tryd.ntmps9
  go_wp2
  simp [bodyPostD, Leaves, settle, results, Tryd.results9, go_sem]
  exact (Below.refl _ _).alloc (Nat.le_refl _) _

set_option maxRecDepth 100000 in
theorem is_num (n m : Int) (r : Bool) (hr : (n == m) = r) (ts : List ByteArray) (T : TypeId) (d : Value) (w : World) (hc : Chain w n ts (.iface T d)) :
    Calls Tryd.prog 9 #[.iface T d, .int .i64 m] w fun e w' => e = .returned (.bool r) ∧ Below w.heap.size w w' := by
  have hmf : ∀ (fn : Fn) (first cap : Array Value) (w : World), (Instr.makeFunc fn first cap).run Tryd.prog w = .ok (.func fn first cap) w := fun _ _ _ _ => rfl
  have b1 : Below w.heap.size w (w.alloc (.cells #[.bool false] 4)) := (Below.refl w.heap.size w).alloc (Nat.le_refl _) _
  have HA := Lib.hid (errorsIs n m r hr ts T d (w.alloc (.cells #[.bool false] 4)) (hc.below (Nat.le_refl _) b1))
  have HB := Lib.hid b1
  clear hr hc b1
  go_enter_defers Tryd.func9, Tryd.ntmps9
  go_wp2_with (go_at_call 21; go_must (refine HA.out.mono ?_); rintro e w1 ⟨rfl, rfl⟩)
  refine leaves_cons (f := 20) (args := #[.pointer (some ⟨w.heap.size, 0, none⟩)]) (by simp) (by simp [go_sem]) ?_
  refine (idle23 _ _).mono ?_
  rintro e u' w'' ⟨rfl, rfl, rfl⟩
  simp [Leaves, settle, results, Tryd.results9, go_sem]
  exact (Below.refl _ _).alloc (Nat.le_refl _) _
end Go.Proofs.YtoiekieddkadmaaDoor

