/- Numbers' bounds, heads; loads of blocks and of heads. -/
import Derived.Test.YtlmehhjgagddoaaDoorTools
namespace Go.Proofs.YtlmehhjgagddoaaDoor
set_option linter.unusedSimpArgs false
set_option linter.unusedVariables false
open Go.RowKit

theorem within_any (n a b : Int) (w : World) : Calls Tryd.prog 34 #[.int .i64 n, .int .i64 a, .int .i64 b] w fun e w' => e = .returned (.bool (within n a b)) ∧ w = w' := by
  unfold within
  by_cases h1 : a ≤ n <;> by_cases h2 : n ≤ b <;> simp only [h1, h2, decide_true, decide_false, Bool.and_true, Bool.and_false]
  all_goals
    go_enter Tryd.func34, Tryd.ntmps34
    go_wp2_with fail
    go_ret
    exact ⟨rfl, rfl⟩
theorem isHead_any (h : Int) (w : World) : Calls Tryd.prog 42 #[.int .i64 h] w fun e w' => e = .returned (.bool (isHead h)) ∧ w = w' := by
  have H := Lib.hid fun w => within_any h 4 1023 w
  unfold isHead
  by_cases h0 : h = 0
  · subst h0
    go_enter Tryd.func42, Tryd.ntmps42
    go_wp2_with fail
    go_ret
    exact ⟨rfl, rfl⟩
  · by_cases h1 : h = 1
    · subst h1
      go_enter Tryd.func42, Tryd.ntmps42
      go_wp2_with fail
      go_ret
      exact ⟨rfl, rfl⟩
    · simp only [h0, h1, decide_false, Bool.false_or]
      go_enter Tryd.func42, Tryd.ntmps42
      go_wp2_with fail
      refine (H.out _).mono ?_
      rintro e w1 ⟨rfl, rfl⟩
      go_wp2_with fail
      go_ret
      exact ⟨ret_bool (by simp [h0, h1, within]), rfl⟩
theorem info41 : (Tryd.prog.info? 41).map (·.size) = some 8 := by kernel_rfl
theorem info43 : (Tryd.prog.info? 43).map (·.size) = some 45 := by kernel_rfl
theorem zero43 : (Tryd.prog.info? 43).bind (·.zero) = some (.agg (#[.int .i64 0, .int .i64 0] ++ Array.replicate 32 (.int .u8 0) ++ #[.int .i64 0, .slice none 0 0, .int .i64 0] ++ Array.replicate 8 (.int .i64 0))) := by kernel_rfl
theorem built41 : Tryd.prog.built 41 [] = some (i64s (zeros 8)).toArray := by kernel_rfl
theorem build41 (w : World) : (Instr.build 41 #[]).run Tryd.prog w = .ok (.agg (i64s (zeros 8)).toArray) w := run_build w 41 _ _ built41
section
variable {ops : Array Oper} {rest : List Oper} {dst : Option Tmp} {x : Operand} {t2 : TypeId} {pos : String} {after : Array Edge} {guard : Option (Nat × Bool)} {a : Act} {w : World} {Q : Exit → Act → World → Prop}
theorem load41 {g off : Nat} {cs : Array Value} (hA : At w g off cs) (hs : cs.size = 8) (hx : a.eval x = .pointer (some ⟨g, off, none⟩)) (hw : Region.wanted ⟨dst, .load 41 x, t2, pos, after, guard⟩ (yielded ops a.tmps) = true)
    (h : wpList Tryd.prog ops Q rest (a.put dst (.agg cs)) w) : wpList Tryd.prog ops Q (⟨dst, .load 41 x, t2, pos, after, guard⟩ :: rest) a w :=
  wpList_load_at hw 41 x rfl g off hx cs _ Tryd.underlying41 rfl (by rw [hs]; exact info41) hA h
theorem load43 {g off : Nat} {cs : Array Value} (hA : At w g off cs) (hs : cs.size = 45) (hx : a.eval x = .pointer (some ⟨g, off, none⟩)) (hw : Region.wanted ⟨dst, .load 43 x, t2, pos, after, guard⟩ (yielded ops a.tmps) = true)
    (h : wpList Tryd.prog ops Q rest (a.put dst (.agg cs)) w) : wpList Tryd.prog ops Q (⟨dst, .load 43 x, t2, pos, after, guard⟩ :: rest) a w :=
  wpList_load_at hw 43 x rfl g off hx cs _ Tryd.underlying43 rfl (by rw [hs]; exact info43) hA h
end

end Go.Proofs.YtlmehhjgagddoaaDoor
