/- errors.Is and errors.is over chains of faults, asked for a number: whether it is the chain's own; the world is as it was. -/
import Derived.Test.YthlnmdihdcfphaaGreatDoorSh
namespace Go.Proofs.YthlnmdihdcfphaaGreatDoor
set_option linter.unusedSimpArgs false
set_option linter.unusedVariables false
open Go.RowKit Go.Extern.Stop Go.Stop Go.Extern
theorem methodComparable (h : Value) (w : World) : (Go.method 349 168 (.agg #[h]) "Comparable").run Tryz.prog w = .ok (150, .agg #[h]) w := by kernel_rfl
theorem no43_83 (v : Value) (xT : TypeId) (w : World) : (Instr.typeAssert (.iface 121 v) xT 170 true).run Tryz.prog w = .ok (.tuple #[.nilIface, .bool false]) w := run_typeAssert_lacksB Tryz.underlying170 (by kernel_rfl) (by kernel_rfl) v xT w
theorem is_has43_86 (v : Value) (xT : TypeId) (w : World) : (Instr.typeAssert (.iface 121 v) xT 173 true).run Tryz.prog w = .ok (.tuple #[.iface 121 v, .bool true]) w := run_typeAssert_hasB Tryz.underlying173 (by kernel_rfl) v xT w
theorem is_no26_83 (v : Value) (xT : TypeId) (w : World) : (Instr.typeAssert (.iface 31 v) xT 170 true).run Tryz.prog w = .ok (.tuple #[.nilIface, .bool false]) w := run_typeAssert_lacksB Tryz.underlying170 (by kernel_rfl) (by kernel_rfl) v xT w
theorem is_no26_86 (v : Value) (xT : TypeId) (w : World) : (Instr.typeAssert (.iface 31 v) xT 173 true).run Tryz.prog w = .ok (.tuple #[.nilIface, .bool false]) w := run_typeAssert_lacksB Tryz.underlying173 (by kernel_rfl) (by kernel_rfl) v xT w
theorem is_no26_88 (v : Value) (xT : TypeId) (w : World) : (Instr.typeAssert (.iface 31 v) xT 175 true).run Tryz.prog w = .ok (.tuple #[.nilIface, .bool false]) w := run_typeAssert_lacksB Tryz.underlying175 (by kernel_rfl) (by kernel_rfl) v xT w
theorem is_methodUnwrap (a : Addr) (w : World) : (Go.method 349 121 (.pointer (some a)) "Unwrap").run Tryz.prog w = .ok (144, .pointer (some a)) w := by kernel_rfl
theorem comp26 : (Tryz.prog.info? 31).map (·.comparable) = some true := by kernel_rfl
theorem is_eqlN (a b : Int) (w : World) : (binOp .eql 82 (.iface 31 (.int .i64 a)) (.iface 31 (.int .i64 b))).run Tryz.prog w = .ok (.bool (a == b)) w := by
  obtain ⟨i, hi, hc⟩ := Option.map_eq_some_iff.1 comp26
  exact run_eql_iface_int w a b Tryz.underlying82 Tryz.underlying31 hi hc
theorem is_eqlF (a b : Value) (w : World) : (binOp .eql 82 (.iface 121 a) (.iface 31 b)).run Tryz.prog w = .ok (.bool false) w :=
  run_eql_iface_types 121 31 a b Tryz.underlying82 (by decide) w
theorem ext79 (args : Array Value) (w : World) : (callFunc 150 args).run Tryz.prog w = (((ReflectliteType.method fun t => do Go.Extern.Rtype.noPackHeld "Comparable" t; pure (.bool (← typeInfo t).comparable) : Array Value → Sem Value) args).run Tryz.prog w).andThen fun v w' => .ok (.value v) w' := @run_callFunc_extern Tryz.prog 150 _ (ReflectliteType.method fun t => do Go.Extern.Rtype.noPackHeld "Comparable" t; pure (.bool (← typeInfo t).comparable)) Tryz.func150 (by kernel_rfl) (by kernel_rfl) (by kernel_rfl) (by kernel_rfl) args w
theorem comparable26 (w : World) : ((ReflectliteType.method fun t => do Go.Extern.Rtype.noPackHeld "Comparable" t; (fun a => Value.bool a.comparable) <$> typeInfo t) #[.agg #[.pointer (some ⟨4, 31, none⟩)]]).run Tryz.prog w = .ok (.bool true) w := by kernel_rfl
theorem is_shape {w : World} {n : Int} : ∀ {ts : List ByteArray} {v : Value}, Chain w n ts v → ∃ T d, v = .iface T d
  | [], _, h => ⟨_, _, h⟩
  | _ :: _, _, ⟨_, _, h, _⟩ => ⟨_, _, h⟩

set_option maxRecDepth 100000 in
set_option maxHeartbeats 4000000 in
theorem is_any (n m : Int) (r : Bool) (hr : (n == m) = r) (ts : List ByteArray) (v : Value) (w : World) (hc : Chain w n ts v) :
    Calls Tryz.prog 70 #[v, .iface 31 (.int .i64 m), .bool true] w fun e w' => e = .returned (.bool r) ∧ w = w' := by
  have e1 := is_eqlN n m; have e2 := fun a => is_eqlF a (.int .i64 m)
  rw [hr] at e1
  have mU := is_methodUnwrap; have nA := no43_83; have nU := is_has43_86
  have n1 := is_no26_83; have n2 := is_no26_86; have n3 := is_no26_88
  have HC := Lib.hid hc
  clear hc hr
  go_enter Tryz.func70, Tryz.ntmps70
  go_wp2_with fail
  go_loopg [0] ts.length (fun k x wr => ∃ us : List ByteArray, us.length ≤ k ∧ Chain wr n us x ∧ w = wr)
  case atStart => exact ⟨ts, Nat.le_refl _, HC.out, rfl⟩
  case round =>
    obtain ⟨us, hl, hcr, rfl⟩ := hrel
    cases us with
    | nil =>
      simp only [Chain] at hcr
      subst hcr
      cases r
      · go_wp2
        go_ret
        exact ⟨rfl, rfl⟩
      · go_wp2
        go_ret
        exact ⟨rfl, rfl⟩
    | cons s us =>
      obtain ⟨a, u, rfl, k0, k1, k2, hcu⟩ := hcr
      obtain ⟨T, d, rfl⟩ := is_shape hcu
      have HU := Lib.hid hcu
      have HL := Lib.hid hl
      clear hcu hl
      go_wp2_with (go_at_call 144; go_must (refine (unwrap_any a (.iface T d) _ k1).mono ?_); rintro e w' ⟨rfl, rfl⟩)
      go_roundg us.length
      case measure => have := HL.out; simp at this; omega
      case rel => exact ⟨us, Nat.le_refl _, HU.out, rfl⟩

set_option maxRecDepth 100000 in
set_option maxHeartbeats 1000000 in
theorem errorsIs (n m : Int) (r : Bool) (hr : (n == m) = r) (ts : List ByteArray) (T : TypeId) (d : Value) (w : World) (hc : Chain w n ts (.iface T d)) :
    Calls Tryz.prog 51 #[.iface T d, .iface 31 (.int .i64 m)] w fun e w' => e = .returned (.bool r) ∧ w = w' := by
  have h31 := ext31; have h79 := ext79
  have tO := typeOf26; have mC := methodComparable; have cO := comparable26
  have HI := Lib.hid (is_any n m r hr ts (.iface T d) w hc)
  clear hc hr
  go_enter Tryz.func51, Tryz.ntmps51
  go_wp2_with (go_at_call 70; go_must (refine HI.out.mono ?_); rintro e w' ⟨rfl, rfl⟩)
  go_ret
  exact ⟨rfl, rfl⟩
theorem idle23 (a : Value) (w : World) :
    CallsD Tryz.prog 50 #[a] .returning w fun e u' w' => e = .returned (.tuple #[]) ∧ u' = .returning ∧ w' = w := by
  refine callsD_of_wpS Tryz.func50 rfl fun c₀ cs hu => ?_
  apply wpS_seq
  apply wpS_region
  simp [wpOpsS, go_sem, recoverD, hu, Tryz.ntmps50, Exit.thenS]
  refine wpS_cond (t := false) (by simp [Act.eval, Array.replicate]) ?_
  simp only [Bool.false_eq_true, if_false]
  refine wpS_of_wp (wp_skip ?_)
  cases c₀
  simp_all [bodyPostS, results, Tryz.results50]

theorem is_nil (m : Int) (r : Bool) (hr : (m == 0) = r) (w : World) : Calls Tryz.prog 32 #[.nilIface, .int .i64 m] w fun e w' => e = .returned (.bool r) ∧ Below w.heap.size w w' := by
  go_enter_defers Tryz.func32, Tryz.ntmps32
  go_wp2
  simp [bodyPostD, Leaves, settle, results, Tryz.results32, go_sem]
  exact (Below.refl _ _).alloc (Nat.le_refl _) _

set_option maxRecDepth 100000 in
theorem is_num (n m : Int) (r : Bool) (hr : (n == m) = r) (ts : List ByteArray) (T : TypeId) (d : Value) (w : World) (hc : Chain w n ts (.iface T d)) :
    Calls Tryz.prog 32 #[.iface T d, .int .i64 m] w fun e w' => e = .returned (.bool r) ∧ Below w.heap.size w w' := by
  have hmf : ∀ (fn : Fn) (first cap : Array Value) (w : World), (Instr.makeFunc fn first cap).run Tryz.prog w = .ok (.func fn first cap) w := fun _ _ _ _ => rfl
  have b1 : Below w.heap.size w (w.alloc (.cells #[.bool false] 4)) := (Below.refl w.heap.size w).alloc (Nat.le_refl _) _
  have HA := Lib.hid (errorsIs n m r hr ts T d (w.alloc (.cells #[.bool false] 4)) (hc.below (Nat.le_refl _) b1))
  have HB := Lib.hid b1
  clear hr hc b1
  go_enter_defers Tryz.func32, Tryz.ntmps32
  go_wp2_with (go_at_call 51; go_must (refine HA.out.mono ?_); rintro e w1 ⟨rfl, rfl⟩)
  refine leaves_cons (f := 50) (args := #[.pointer (some ⟨w.heap.size, 0, none⟩)]) (by simp) (by simp [go_sem]) ?_
  refine (idle23 _ _).mono ?_
  rintro e u' w'' ⟨rfl, rfl, rfl⟩
  simp [Leaves, settle, results, Tryz.results32, go_sem]
  exact (Below.refl _ _).alloc (Nat.le_refl _) _
end Go.Proofs.YthlnmdihdcfphaaGreatDoor
