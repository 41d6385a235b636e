/- What a sector that is a block says; parts of arrays. -/
import Derived.Test.YtbhaifdhmfmeoaaDecode
namespace Go.Proofs.Ytbhaifdhmfmeoaa
set_option linter.unusedSimpArgs false
set_option linter.unusedVariables false
open Go.RowKit

theorem sec_good {b : Bk} (h : b.good = true) (n : Int) : b.sec n = b.enc n := by unfold Bk.sec; rw [h]; rfl
theorem err_bad {b : Bk} (h : b.good = false) : b.err = 11 := by unfold Bk.err; rw [h]; rfl
theorem err_good {b : Bk} (h : b.good = true) : b.err = 0 := by unfold Bk.err; rw [h]; rfl
theorem is_good {s : List Int} (h : isBlock s = true) : (readOf s).good = true ∧ (readOf s).enc (seqOf s) = s := by
  unfold isBlock at h
  simpa using h
theorem dec_yes {s : List Int} (h : isBlock s = true) : decB s = readOf s ∧ decN s = seqOf s ∧ decE s = 0 := by
  unfold decB decN decE
  rw [h]
  exact ⟨rfl, rfl, rfl⟩
theorem dec_no {s : List Int} (h : isBlock s = false) : decB s = Bk.none ∧ decN s = 0 ∧ decE s = 11 := by
  unfold decB decN decE
  rw [h]
  exact ⟨rfl, rfl, rfl⟩
theorem dlt_cells {b : Bk} (h : b.good = true) (k : b.kind = 2) (n : Int) : (b.enc n)[6]? = some b.off ∧ (b.enc n)[7]? = some (b.bytes.length : Int) ∧ (∀ (j : Nat) (x : Int), b.bytes[j]? = some x → (b.enc n)[8 + j]? = some x) ∧
    (∀ j, 8 + b.bytes.length ≤ j → j < 24 → (b.enc n)[j]? = some 0) ∧ (b.enc n)[24]? = some (b.prev % 256) ∧ (b.enc n)[25]? = some (b.prev / 256 % 256) ∧ ∀ j, 26 ≤ j → j < 64 → (b.enc n)[j]? = some 0 := by
  obtain ⟨⟨l1, l2⟩, _⟩ := good2 h k
  unfold Bk.enc
  rw [if_neg (by omega), if_pos k]
  have at8 : ∀ i, (2 :: b.id :: (le 4 n ++ (b.off :: (b.bytes.length : Int) :: (b.bytes ++ (zeros (16 - b.bytes.length) ++ (le 2 b.prev ++ zeros 38))))))[i + 8]? = (b.bytes ++ (zeros (16 - b.bytes.length) ++ (le 2 b.prev ++ zeros 38)))[i]? := fun i => by
    simp only [le, List.cons_append, List.nil_append, List.getElem?_cons_succ]
  have at24 : ∀ i, (2 :: b.id :: (le 4 n ++ (b.off :: (b.bytes.length : Int) :: (b.bytes ++ (zeros (16 - b.bytes.length) ++ (le 2 b.prev ++ zeros 38))))))[i + 24]? = (le 2 b.prev ++ zeros 38)[i]? := fun i => by
    rw [show i + 24 = (i + 16) + 8 by omega, at8, List.getElem?_append_right (by omega), List.getElem?_append_right (by rw [zeros_length]; omega), zeros_length]
    congr 1
    omega
  refine ⟨rfl, rfl, fun j x hx => ?_, fun j h1 h2 => ?_, at24 0, at24 1, fun j h1 h2 => ?_⟩
  · rw [show 8 + j = j + 8 by omega, at8, List.getElem?_append_left (List.getElem?_eq_some_iff.1 hx).1, hx]
  · obtain ⟨i, rfl⟩ : ∃ i, j = i + 8 := ⟨j - 8, by omega⟩
    rw [at8, List.getElem?_append_right (by omega), List.getElem?_append_left (by rw [zeros_length]; omega), zeros, List.getElem?_replicate, if_pos (by omega)]
  · obtain ⟨i, rfl⟩ : ∃ i, j = i + 2 + 24 := ⟨j - 26, by omega⟩
    rw [at24]
    simp only [le, List.cons_append, List.nil_append, List.getElem?_cons_succ]
    rw [zeros, List.getElem?_replicate, if_pos (by omega)]
/-- Part of a block of bytes, as a slice. -/
theorem BytesAt.of_part {w : World} {g : Nat} {L l : List Int} (o cap : Nat) (h : Blk w g (u8s L)) (hl : ∀ (j : Nat) (x : Int), l[j]? = some x → L[o + j]? = some x) : BytesAt w (.slice (some ⟨g, o, none⟩) l.length cap) l :=
  ⟨_, cap, rfl, fun i x hx => ⟨g, o, rfl, h.cell (by rw [List.getElem?_map, hl i x hx]; rfl)⟩⟩
theorem arr50 : Try.prog.underlying 50 = some (.array (Try.prog.arrayLen 50) (Try.prog.elem 50)) ∧ Try.prog.arrayLen 50 = 64 ∧ Try.prog.elem 50 = 5 := ⟨by kernel_rfl, by kernel_rfl, by kernel_rfl⟩
/-- Part of a sector, from byte 8 on. -/
theorem slice8 (w : World) (g n : Nat) (hn : n ≤ 16) : (Instr.sliceAt 50 (.pointer (some ⟨g, 0, none⟩)) (some (.int .i64 8)) (some (.int .i64 (8 + (n : Int)))) none).run Try.prog w = .ok (.slice (some ⟨g, 8, none⟩) n 56) w := by
  obtain ⟨i, hi, hs⟩ := size_of info5s
  rw [run_sliceAt_array_lh w 50 ⟨g, 0, none⟩ arr50.1 .i64 .i64 8 (8 + (n : Int)) (by omega) (by omega) (by rw [arr50.2.1]; omega), arr50.2.2, arr50.2.1]
  simp only [sizeOf, typeInfo, Sem.run_bind, run_program, hi, Result.andThen_ok, Sem.run_pure, hs, slicedAt]
  rw [if_neg (by decide), show (8 + (n : Int)).toNat - (8 : Int).toNat = n by omega]
  rfl
theorem exec_slice8 (w : World) (ev : Operand → Value) (o : Oper) (x y : Operand) (ho : o.op = .slice 50 x (some (.const (.int .i64 8))) (some y) none) (g n : Nat) (hx : ev x = .pointer (some ⟨g, 0, none⟩)) (hy : ev y = .int .i64 (8 + (n : Int))) (hc : ev (.const (.int .i64 8)) = .int .i64 8) (hn : n ≤ 16) :
    (execOp ev o).run Try.prog w = .ok (.value (.slice (some ⟨g, 8, none⟩) n 56)) w := by
  unfold execOp
  simp only [ho, hx, hy, hc, Option.map_some, Option.map_none, Sem.run_bind, slice8 w g n hn, Result.andThen_ok, Sem.run_pure]

end Go.Proofs.Ytbhaifdhmfmeoaa
