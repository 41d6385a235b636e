/- errors.Is and errors.is over chains of faults, asked for a number: whether it is the chain's own; the world is as it was. -/
import Derived.Test.YtfekilchomakpaaDoorErrs
namespace Go.Proofs.YtfekilchomakpaaDoor
open Go.RowKit Go.Extern.Stop Go.Stop Go.Extern
theorem no43_83 (v : Value) (xT : TypeId) (w : World) : (Instr.typeAssert (.iface 43 v) xT 83 true).run Tryd.prog w = .ok (.tuple #[.nilIface, .bool false]) w := run_typeAssert_lacksB Tryd.underlying83 (by kernel_rfl) (by kernel_rfl) v xT w
theorem is_has43_86 (v : Value) (xT : TypeId) (w : World) : (Instr.typeAssert (.iface 43 v) xT 86 true).run Tryd.prog w = .ok (.tuple #[.iface 43 v, .bool true]) w := run_typeAssert_hasB Tryd.underlying86 (by kernel_rfl) v xT w
theorem is_no26_83 (v : Value) (xT : TypeId) (w : World) : (Instr.typeAssert (.iface 26 v) xT 83 true).run Tryd.prog w = .ok (.tuple #[.nilIface, .bool false]) w := run_typeAssert_lacksB Tryd.underlying83 (by kernel_rfl) (by kernel_rfl) v xT w
theorem is_no26_86 (v : Value) (xT : TypeId) (w : World) : (Instr.typeAssert (.iface 26 v) xT 86 true).run Tryd.prog w = .ok (.tuple #[.nilIface, .bool false]) w := run_typeAssert_lacksB Tryd.underlying86 (by kernel_rfl) (by kernel_rfl) v xT w
theorem is_no26_88 (v : Value) (xT : TypeId) (w : World) : (Instr.typeAssert (.iface 26 v) xT 88 true).run Tryd.prog w = .ok (.tuple #[.nilIface, .bool false]) w := run_typeAssert_lacksB Tryd.underlying88 (by kernel_rfl) (by kernel_rfl) v xT w
theorem is_methodUnwrap (a : Addr) (w : World) : (Go.method 239 43 (.pointer (some a)) "Unwrap").run Tryd.prog w = .ok (72, .pointer (some a)) w := by kernel_rfl
theorem comp26 : (Tryd.prog.info? 26).map (·.comparable) = some true := by kernel_rfl
theorem eql26 (a b : Int) (w : World) : (binOp .eql 28 (.iface 26 (.int .i64 a)) (.iface 26 (.int .i64 b))).run Tryd.prog w = .ok (.bool (a == b)) w := by
  obtain ⟨i, hi, hc⟩ := Option.map_eq_some_iff.1 comp26
  exact run_eql_iface_int w a b Tryd.underlying28 Tryd.underlying26 hi hc
theorem eql43 (a b : Value) (w : World) : (binOp .eql 28 (.iface 43 a) (.iface 26 b)).run Tryd.prog w = .ok (.bool false) w :=
  run_eql_iface_types 43 26 a b Tryd.underlying28 (by decide) w
theorem ext79 (args : Array Value) (w : World) : (callFunc 79 args).run Tryd.prog w = (((ReflectliteType.method fun t => do Go.Extern.Rtype.noPackHeld "Comparable" t; pure (.bool (← typeInfo t).comparable) : Array Value → Sem Value) args).run Tryd.prog w).andThen fun v w' => .ok (.value v) w' := @run_callFunc_extern Tryd.prog 79 _ (ReflectliteType.method fun t => do Go.Extern.Rtype.noPackHeld "Comparable" t; pure (.bool (← typeInfo t).comparable)) Tryd.func79 (by kernel_rfl) (by kernel_rfl) (by kernel_rfl) (by kernel_rfl) args w
theorem comparable26 (w : World) : ((ReflectliteType.method fun t => do Go.Extern.Rtype.noPackHeld "Comparable" t; (fun a => Value.bool a.comparable) <$> typeInfo t) #[.agg #[.pointer (some ⟨4, 26, none⟩)]]).run Tryd.prog w = .ok (.bool true) w := by kernel_rfl
theorem is_shape {w : World} {n : Int} : ∀ {ts : List ByteArray} {v : Value}, Chain w n ts v → ∃ T d, v = .iface T d
  | [], _, h => ⟨_, _, h⟩
  | _ :: _, _, ⟨_, _, h, _⟩ => ⟨_, _, h⟩

set_option maxRecDepth 100000 in
set_option maxHeartbeats 4000000 in
theorem is_any (n m : Int) (r : Bool) (hr : (n == m) = r) (ts : List ByteArray) (v : Value) (w : World) (hc : Chain w n ts v) :
    Calls Tryd.prog 32 #[v, .iface 26 (.int .i64 m), .bool true] w fun e w' => e = .returned (.bool r) ∧ w = w' := by
  have e1 := eql26 n m; have e2 := fun a => eql43 a (.int .i64 m)
  rw [hr] at e1
  have mU := is_methodUnwrap; have nA := no43_83; have nU := is_has43_86
  have n1 := is_no26_83; have n2 := is_no26_86; have n3 := is_no26_88
  have HC := Lib.hid hc
  clear hc hr
  go_enter Tryd.func32, Tryd.ntmps32
  go_wp2_with fail
  go_loopg [0] ts.length (fun k x wr => ∃ us : List ByteArray, us.length ≤ k ∧ Chain wr n us x ∧ w = wr)
  case atStart => exact ⟨ts, Nat.le_refl _, HC.out, rfl⟩
  case round =>
    obtain ⟨us, hl, hcr, rfl⟩ := hrel
    cases us with
    | nil =>
      simp only [Chain] at hcr
      subst hcr
      cases r
      · go_wp2
        go_ret
        exact ⟨rfl, rfl⟩
      · go_wp2
        go_ret
        exact ⟨rfl, rfl⟩
    | cons s us =>
      obtain ⟨a, u, rfl, k0, k1, k2, hcu⟩ := hcr
      obtain ⟨T, d, rfl⟩ := is_shape hcu
      have HU := Lib.hid hcu
      have HL := Lib.hid hl
      clear hcu hl
      go_wp2_with (go_at_call 72; go_must (refine (unwrap_any a (.iface T d) _ k1).mono ?_); rintro e w' ⟨rfl, rfl⟩)
      go_roundg us.length
      case measure => have := HL.out; simp at this; omega
      case rel => exact ⟨us, Nat.le_refl _, HU.out, rfl⟩

set_option maxRecDepth 100000 in
set_option maxHeartbeats 1000000 in
theorem errorsIs (n m : Int) (r : Bool) (hr : (n == m) = r) (ts : List ByteArray) (T : TypeId) (d : Value) (w : World) (hc : Chain w n ts (.iface T d)) :
    Calls Tryd.prog 24 #[.iface T d, .iface 26 (.int .i64 m)] w fun e w' => e = .returned (.bool r) ∧ w = w' := by
  have h31 := ext31; have h79 := ext79
  have tO := typeOf26; have mC := methodComparable; have cO := comparable26
  have HI := Lib.hid (is_any n m r hr ts (.iface T d) w hc)
  clear hc hr
  go_enter Tryd.func24, Tryd.ntmps24
  go_wp2_with (go_at_call 32; go_must (refine HI.out.mono ?_); rintro e w' ⟨rfl, rfl⟩)
  go_ret
  exact ⟨rfl, rfl⟩
end Go.Proofs.YtfekilchomakpaaDoor
