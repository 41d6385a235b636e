/- Sectors and regions compared. -/
import Derived.Test.YtoiekieddkadmaaDoorRead
namespace Go.Proofs.YtoiekieddkadmaaDoor
set_option linter.unusedSimpArgs false
set_option linter.unusedVariables false
open Go.RowKit

theorem run_equalIn_two {P : Program} (t e b : TypeId) (k : IntKind) (i i5 : TypeInfo) (ht : P.underlying t = some (.array 2 e)) (he : P.underlying e = some (.array 64 b)) (hb : P.underlying b = some (.int k)) (hi : P.info? e = some i) (hs : i.size = 64) (hi5 : P.info? b = some i5) (hs5 : i5.size = 1)
    (w : World) (d : Nat) (l m : List Int) (hl : l.length = 128) (hm : m.length = 128) : (Op.equalIn (d + 3) t (.agg (u8s l).toArray) (.agg (u8s m).toArray)).run P w = .ok (decide (l = m)) w := by
  have part (x : List Int) (hx : x.length = 128) (j : Nat) (hj : j < 2) : (Go.part e (u8s x).toArray (j * 64)).run P w = .ok (.agg (u8s ((x.drop (64 * j)).take 64)).toArray) w := by
    have hagg : (isAgg e).run P w = .ok true w := by
      unfold isAgg
      rw [Sem.run_bind, run_underlying he w]
      rfl
    have ee : (u8s x).toArray.extract (j * 64) (j * 64 + 64) = (u8s ((x.drop (64 * j)).take 64)).toArray := by
      simp [List.map_take, List.map_drop, Nat.mul_comm]
    unfold Go.part
    simp only [Sem.run_bind, hagg, Result.andThen_ok, if_true, sizeOf, typeInfo, hi, hs, run_program, Sem.run_pure, ee]
  have q (j : Nat) (hj : j < 2) := run_equalIn_ints (P := P) w d e b 64 k .u8 i5 ((l.drop (64 * j)).take 64) ((m.drop (64 * j)).take 64) he hb hi5 hs5 (part_len hl (by omega)) (part_len hm (by omega))
  have e1 : decide (l = m) = (decide ((l.drop (64 * 0)).take 64 = (m.drop (64 * 0)).take 64) && decide ((l.drop (64 * 1)).take 64 = (m.drop (64 * 1)).take 64)) := by
    rw [← Bool.decide_and]
    refine decide_eq_decide.2 ⟨fun h => by rw [h]; exact ⟨rfl, rfl⟩, fun ⟨h0, h1⟩ => ?_⟩
    have t : ∀ x : List Int, x.length = 128 → x = (x.drop (64 * 0)).take 64 ++ (x.drop (64 * 1)).take 64 := fun x hx => by
      rw [Nat.mul_zero, List.drop_zero, Nat.mul_one, List.take_of_length_le (l := x.drop 64) (by simp; omega), List.take_append_drop]
    rw [t l hl, t m hm, h0, h1]
  have pl0 := part l hl 0 (by decide)
  have pl1 := part l hl 1 (by decide)
  have pm0 := part m hm 0 (by decide)
  have pm1 := part m hm 1 (by decide)
  have q0 := q 0 (by decide)
  have q1 := q 1 (by decide)
  rw [e1]
  clear part q e1
  generalize (l.drop (64 * 0)).take 64 = l0 at *
  generalize (l.drop (64 * 1)).take 64 = l1 at *
  generalize (m.drop (64 * 0)).take 64 = m0 at *
  generalize (m.drop (64 * 1)).take 64 = m1 at *
  generalize (u8s l).toArray = xl at *
  generalize (u8s m).toArray = xm at *
  generalize (u8s l0).toArray = a0 at *
  generalize (u8s l1).toArray = a1 at *
  generalize (u8s m0).toArray = b0 at *
  generalize (u8s m1).toArray = b1 at *
  unfold Op.equalIn
  simp only [Sem.run_bind, run_underlying ht, Result.andThen_ok, sizeOf, typeInfo, run_program, hi, Sem.run_pure, hs, Std.Legacy.Range.forIn_eq_forIn_range', Std.Legacy.Range.size, Nat.sub_zero, Nat.add_sub_cancel, Nat.div_one, show List.range' 0 2 = [0, 1] from rfl, List.forIn_cons, List.forIn_nil, pl0, pm0, q0]
  cases decide (l0 = m0) <;> cases hd : decide (l1 = m1) <;> simp [Sem.run_bind, pl1, pm1, q1, hd]
theorem guard50 : Tryd.prog.eqGuardType Tryd.prog.depth 50 = false := by kernel_rfl
theorem guard27 : Tryd.prog.eqGuardType Tryd.prog.depth 27 = false := by kernel_rfl
theorem run_neq_two {l m : List Int} {v : Bool} (hv : decide (l = m) = !v) (hl : l.length = 128) (hm : m.length = 128) (ev : Operand → Value) (o : Oper) (w : World) {x y : Operand} {t : TypeId} (ho : o.op = .binOp .neq 50 x y t) (hx : ev x = .agg (u8s l).toArray) (hy : ev y = .agg (u8s m).toArray) : (execOp ev o).run Tryd.prog w = .ok (.value (.bool v)) w := by
  obtain ⟨i, hi, hs⟩ := size_of info49
  obtain ⟨i5, hi5, hs5⟩ := size_of info5s
  have h := run_equalIn_two 50 49 5 _ i i5 Tryd.underlying50 Tryd.underlying49 Tryd.underlying5 hi hs hi5 hs5 w 9997 l m hl hm
  rw [hv] at h
  have hb : (binOp .neq 50 (.agg (u8s l).toArray) (.agg (u8s m).toArray)).run Tryd.prog w = .ok (.bool v) w := by
    simp only [binOp]
    simp [Op.equal, Op.maxDepth, h]
  unfold execOp
  simp only [ho, hx, hy, Sem.run_bind, run_eqGuard_agg w .neq 50 x y _ _ guard50, Result.andThen_ok, hb, Sem.run_pure]
theorem run_eql_two {l m : List Int} {v : Bool} (hv : decide (l = m) = v) (hl : l.length = 128) (hm : m.length = 128) (ev : Operand → Value) (o : Oper) (w : World) {x y : Operand} {t : TypeId} (ho : o.op = .binOp .eql 50 x y t) (hx : ev x = .agg (u8s l).toArray) (hy : ev y = .agg (u8s m).toArray) : (execOp ev o).run Tryd.prog w = .ok (.value (.bool v)) w := by
  obtain ⟨i, hi, hs⟩ := size_of info49
  obtain ⟨i5, hi5, hs5⟩ := size_of info5s
  have h := run_equalIn_two 50 49 5 _ i i5 Tryd.underlying50 Tryd.underlying49 Tryd.underlying5 hi hs hi5 hs5 w 9997 l m hl hm
  rw [hv] at h
  have hb : (binOp .eql 50 (.agg (u8s l).toArray) (.agg (u8s m).toArray)).run Tryd.prog w = .ok (.bool v) w := by
    simp only [binOp]
    simp [Op.equal, Op.maxDepth, h]
  unfold execOp
  simp only [ho, hx, hy, Sem.run_bind, run_eqGuard_agg w .eql 50 x y _ _ guard50, Result.andThen_ok, hb, Sem.run_pure]
theorem run_part_cells {P : Program} (w : World) (t : TypeId) (i : TypeInfo) (d : TypeDesc) (hu : P.underlying t = some d) (hd : (match d with | .struct _ | .array _ _ => true | _ => false) = true) (hi : P.info? t = some i) (cs : Array Value) (o : Nat) : (Go.part t cs o).run P w = .ok (.agg (cs.extract o (o + i.size))) w := by
  have hagg : (isAgg t).run P w = .ok true w := by
    unfold isAgg
    rw [Sem.run_bind, run_underlying hu w]
    cases d <;> simp_all
  unfold Go.part
  simp only [Sem.run_bind, hagg, Result.andThen_ok, if_true, sizeOf, typeInfo, hi, run_program, Sem.run_pure]
theorem run_part_one {P : Program} (w : World) (t : TypeId) (d : TypeDesc) (hu : P.underlying t = some d) (hd : (match d with | .struct _ | .array _ _ => true | _ => false) = false) (cs : Array Value) (o : Nat) (v : Value) (hv : cs[o]? = some v) : (Go.part t cs o).run P w = .ok v w := by
  have hagg : (isAgg t).run P w = .ok false w := by
    unfold isAgg
    rw [Sem.run_bind, run_underlying hu w]
    cases d <;> simp_all
  unfold Go.part
  simp [Sem.run_bind, hagg, hv]
theorem fields24 : (Tryd.prog.fieldsOf 24).toList.map (fun f => (f.name == "_", f.type, f.offset)) = [(false, 3, 0), (false, 3, 1), (false, 3, 2), (false, 3, 3)] := by kernel_rfl
theorem fields27 : (Tryd.prog.fieldsOf 27).toList.map (fun f => (f.name == "_", f.type, f.offset)) = [(false, 22, 0), (false, 24, 1), (false, 3, 5), (false, 3, 6), (false, 22, 7), (false, 25, 8)] := by kernel_rfl
theorem struct24 : Tryd.prog.underlying 24 = some (.struct (Tryd.prog.fieldsOf 24)) := by kernel_rfl
theorem struct27 : Tryd.prog.underlying 27 = some (.struct (Tryd.prog.fieldsOf 27)) := by kernel_rfl
theorem held24 : Tryd.prog.stoodInHeld 24 = false := by kernel_rfl
theorem held27 : Tryd.prog.stoodInHeld 27 = false := by kernel_rfl
/-- All fields alike. -/
theorem run_eqFields_self {P : Program} (w : World) (d : Nat) (xs : Array Value) : ∀ (fs : List Field), (∀ f ∈ fs, ∃ v, (Go.part f.type xs f.offset).run P w = .ok v w ∧ (Op.equalIn d f.type v v).run P w = .ok true w) → (Op.eqFields d xs xs fs).run P w = .ok true w
  | [], _ => by simp [Op.eqFields]
  | f :: fs, h => by
    obtain ⟨v, h1, h2⟩ := h f (by simp)
    have ih := run_eqFields_self (P := P) w d xs fs fun g hg => h g (by simp [hg])
    unfold Op.eqFields
    split
    · simp [Sem.run_bind, h1, h2, ih]
    · exact ih
theorem run_equalIn_num {P : Program} (w : World) (d : Nat) (t : TypeId) (k q : IntKind) (n : Int) (ht : P.underlying t = some (.int k)) : (Op.equalIn (d + 1) t (.int q n) (.int q n)).run P w = .ok true w := by
  rw [run_equalIn_int w d t q k n n ht]
  simp
theorem run_equalIn_geom (w : World) (d : Nat) (a b c e : Int) : (Op.equalIn (d + 2) 24 (.agg #[.int .i64 a, .int .i64 b, .int .i64 c, .int .i64 e]) (.agg #[.int .i64 a, .int .i64 b, .int .i64 c, .int .i64 e])).run Tryd.prog w = .ok true w := by
  rw [run_equalIn_struct w (d + 1) 24 _ _ struct24 held24]
  refine run_eqFields_self w (d + 1) _ _ fun f hf => ?_
  have hm : (f.name == "_", f.type, f.offset) ∈ (Tryd.prog.fieldsOf 24).toList.map (fun f => (f.name == "_", f.type, f.offset)) := List.mem_map.2 ⟨f, hf, rfl⟩
  rw [fields24] at hm
  simp only [List.mem_cons, Prod.mk.injEq, List.not_mem_nil, or_false] at hm
  rcases hm with ⟨_, h1, h2⟩ | ⟨_, h1, h2⟩ | ⟨_, h1, h2⟩ | ⟨_, h1, h2⟩ <;> rw [h1, h2] <;> exact ⟨_, run_part_one w 3 _ Tryd.underlying3 rfl _ _ _ rfl, run_equalIn_num w d 3 _ .i64 _ Tryd.underlying3⟩
theorem run_equalIn_reg (w : World) (d : Nat) (r : Rg) (hl : r.rs.length = 8) : (Op.equalIn (d + 3) 27 (.agg r.cells.toArray) (.agg r.cells.toArray)).run Tryd.prog w = .ok true w := by
  obtain ⟨i3, hi3, hs3⟩ := size_of info3
  obtain ⟨i24, hi24, hs24⟩ := size_of info24
  obtain ⟨i25, hi25, hs25⟩ := size_of info25
  rw [run_equalIn_struct w (d + 2) 27 _ _ struct27 held27]
  refine run_eqFields_self w (d + 2) _ _ fun f hf => ?_
  have hm : (f.name == "_", f.type, f.offset) ∈ (Tryd.prog.fieldsOf 27).toList.map (fun f => (f.name == "_", f.type, f.offset)) := List.mem_map.2 ⟨f, hf, rfl⟩
  rw [fields27] at hm
  simp only [List.mem_cons, Prod.mk.injEq, List.not_mem_nil, or_false] at hm
  rcases hm with ⟨_, h1, h2⟩ | ⟨_, h1, h2⟩ | ⟨_, h1, h2⟩ | ⟨_, h1, h2⟩ | ⟨_, h1, h2⟩ | ⟨_, h1, h2⟩ <;> rw [h1, h2]
  · exact ⟨_, run_part_one w 22 _ Tryd.underlying22 rfl _ _ _ rfl, run_equalIn_num w (d + 1) 22 _ .u32 _ Tryd.underlying22⟩
  · refine ⟨_, run_part_cells w 24 i24 _ struct24 rfl hi24 _ _, ?_⟩
    rw [hs24]
    exact run_equalIn_geom w d r.p r.s r.l r.f
  · exact ⟨_, run_part_one w 3 _ Tryd.underlying3 rfl _ _ _ rfl, run_equalIn_num w (d + 1) 3 _ .i64 _ Tryd.underlying3⟩
  · exact ⟨_, run_part_one w 3 _ Tryd.underlying3 rfl _ _ _ rfl, run_equalIn_num w (d + 1) 3 _ .i64 _ Tryd.underlying3⟩
  · exact ⟨_, run_part_one w 22 _ Tryd.underlying22 rfl _ _ _ rfl, run_equalIn_num w (d + 1) 22 _ .u32 _ Tryd.underlying22⟩
  · refine ⟨_, run_part_cells w 25 i25 _ Tryd.underlying25 rfl hi25 _ _, ?_⟩
    have e : r.cells.toArray.extract 8 (8 + i25.size) = (i64s r.rs).toArray := by
      rw [hs25]
      obtain ⟨gen, p, s, l, f, seg, off, seq, rs⟩ := r
      simp only at hl
      obtain ⟨a, b, c, e, g, i, j, k, rfl⟩ := eight hl
      rfl
    rw [e]
    have := run_equalIn_ints (P := Tryd.prog) w d 25 3 8 _ .i64 i3 r.rs r.rs Tryd.underlying25 Tryd.underlying3 hi3 hs3 hl hl
    simpa using this
theorem run_eql_reg {r : Rg} (hl : r.rs.length = 8) (ev : Operand → Value) (o : Oper) (w : World) {x y : Operand} {t : TypeId} (ho : o.op = .binOp .eql 27 x y t) (hx : ev x = .agg r.cells.toArray) (hy : ev y = .agg r.cells.toArray) : (execOp ev o).run Tryd.prog w = .ok (.value (.bool true)) w := by
  have h := run_equalIn_reg w 9997 r hl
  have hb : (binOp .eql 27 (.agg r.cells.toArray) (.agg r.cells.toArray)).run Tryd.prog w = .ok (.bool true) w := by
    simp only [binOp]
    simp [Op.equal, Op.maxDepth, h]
  unfold execOp
  simp only [ho, hx, hy, Sem.run_bind, run_eqGuard_agg w .eql 27 x y _ _ guard27, Result.andThen_ok, hb, Sem.run_pure]
theorem run_neq_reg {r : Rg} (hl : r.rs.length = 8) (ev : Operand → Value) (o : Oper) (w : World) {x y : Operand} {t : TypeId} (ho : o.op = .binOp .neq 27 x y t) (hx : ev x = .agg r.cells.toArray) (hy : ev y = .agg r.cells.toArray) : (execOp ev o).run Tryd.prog w = .ok (.value (.bool false)) w := by
  have h := run_equalIn_reg w 9997 r hl
  have hb : (binOp .neq 27 (.agg r.cells.toArray) (.agg r.cells.toArray)).run Tryd.prog w = .ok (.bool false) w := by
    simp only [binOp]
    simp [Op.equal, Op.maxDepth, h]
  unfold execOp
  simp only [ho, hx, hy, Sem.run_bind, run_eqGuard_agg w .neq 27 x y _ _ guard27, Result.andThen_ok, hb, Sem.run_pure]
end Go.Proofs.YtoiekieddkadmaaDoor
