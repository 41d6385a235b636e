/- The contract of dev.New. -/
import Derived.Test.YtdmjhpebpooiaaaFill
import Derived.RegionTactic
import Derived.BigRegion
import Derived.Laws.OwnMore
namespace Go.Proofs.Ytdmjhpebpooiaaa
open Go.RowKit
theorem new_no (n : Int) (hn : n < 1 ∨ 1024 < n) (w : World) : Calls Try.prog 12 #[.int .i64 n] w fun e w' => e = .returned (.tuple #[.pointer none, .int .i64 1]) ∧ w = w' := by
  rcases hn with hn | hn
  · go_enter Try.func12, Try.ntmps12
    go_wp2_with fail
    go_ret2
    exact ⟨rfl, rfl⟩
  · by_cases h1 : n < 1
    · omega
    · go_enter Try.func12, Try.ntmps12
      go_wp2_with fail
      go_ret2
      exact ⟨rfl, rfl⟩
theorem info37z : (Try.prog.info? 37).map (fun i => (i.zero, i.size, i.bytes)) = some (some (.agg (fillA 0)), 64, 64) := by kernel_rfl
theorem info3z : (Try.prog.info? 3).map (fun i => (i.zero, i.size, i.bytes)) = some (some (.int .i64 0), 1, 8) := by kernel_rfl

theorem flat_zero (n : Nat) : (madeCells (fillA 0) (n * 64)).toList = flat (List.replicate n (fillA 0)) := by
  have e : flat (List.replicate n (fillA 0)) = List.replicate (n * 64) (Value.int .u8 0) := by
    induction n with
    | zero => rfl
    | succ n ih =>
      simp only [flat, List.replicate_succ, List.flatMap_cons] at ih ⊢
      rw [ih]
      simp only [fillA, Array.toList_replicate, List.replicate_append_replicate]
      congr 1
      omega
  rw [e]
  apply List.ext_getElem?
  intro j
  by_cases hj : j < n * 64
  · have h2 : j % 64 < 64 := Nat.mod_lt _ (by decide)
    rw [List.getElem?_replicate, if_pos hj]
    have h3 : (Array.replicate 64 (Value.int .u8 0))[j % 64]! = .int .u8 0 := by rw [getElem!_pos _ _ (by simpa using h2)]; simp
    simp [madeCells, hj, fillA, h3]
  · simp [madeCells, hj]

theorem make48 (n : Nat) (hn : n ≤ 1024) (w : World) : (Instr.makeSlice 48 (.int .i64 (n : Int)) (.int .i64 (n : Int))).run Try.prog w = .ok (.slice (some ⟨w.heap.size, 0, none⟩) n n) (w.alloc (.cells (madeCells (fillA 0) (n * 64)) 37)) := by
  obtain ⟨i, hi, hz, hs, hb⟩ := info_parts info37z
  have := run_makeSlice (P := Try.prog) w 48 37 i _ Try.underlying48 hi hz .i64 .i64 n n (by omega) (Int.le_refl _) (by rw [hs]; simp; omega) (by rw [hb]; omega) (by omega)
  rw [hs] at this
  simpa [Value.cells] using this
theorem make62 (n : Nat) (hn : n ≤ 1024) (w : World) : (Instr.makeSlice 62 (.int .i64 (n : Int)) (.int .i64 (n : Int))).run Try.prog w = .ok (.slice (some ⟨w.heap.size, 0, none⟩) n n) (w.alloc (.cells (madeCells #[.int .i64 0] n) 3)) := by
  obtain ⟨i, hi, hz, hs, hb⟩ := info_parts info3z
  have := run_makeSlice (P := Try.prog) w 62 3 i _ Try.underlying62 hi hz .i64 .i64 n n (by omega) (Int.le_refl _) (by rw [hs]; simp; omega) (by rw [hb]; omega) (by omega)
  rw [hs] at this
  simpa [Value.cells] using this

theorem newD_at (w : World) (n : Nat) (hn : n ≤ 1024) (b sb nb base : Nat) (h1 : b ≠ sb) (h2 : b ≠ nb) (h3 : sb ≠ nb) (g1 : base ≤ b) (g2 : base ≤ sb) (g3 : base ≤ nb)
    (hb : Blk w b [.slice (some ⟨sb, 0, none⟩) n n, .slice none 0 0, .slice (some ⟨nb, 0, none⟩) n n, .int .i64 (-1), .int .i64 0])
    (hs : Blk w sb (madeCells (fillA 0) (n * 64)).toList) (hl : Blk w nb (madeCells #[.int .i64 0] n).toList) : DevAt w base ⟨b, sb, nb, .slice none 0 0⟩ (newD n) := by
  refine ⟨List.replicate n 0, ?_⟩
  exact { blk := by simpa [newD] using hb, sec := by rw [flat_zero] at hs; exact hs, last := by rw [toList_madeCells_one] at hl; simpa using hl
          own := World.ownsRow_nil _ _ _ _, hS := fun s hs => by simp [newD] at hs; rw [hs.2]; exact fillA_sec 0, hL := by simp [newD], hN := by simp [newD]
          ok := fun i m hm => by
            have := List.mem_of_getElem? hm
            obtain ⟨_, rfl⟩ := List.mem_replicate.1 this
            exact .inl ⟨rfl, by simp [newD]⟩
          n1 := h1, n2 := h2, n3 := h3, o1 := by simp [Value.ownBlock], o2 := by simp [Value.ownBlock], o3 := by simp [Value.ownBlock], b1 := g1, b2 := g2, b3 := g3, len := by simpa [newD] using hn, f := by simp [newD, I64] }

/-- What New leaves. -/
def Made (w : World) (n : Nat) (e : Ending) (w' : World) : Prop := ∃ A, e = .returned (.tuple #[.pointer (some ⟨A.b, 0, none⟩), .int .i64 0]) ∧ DevAt w' w.heap.size A (newD n) ∧ Below w.heap.size w w'

set_option maxRecDepth 100000 in
theorem new_any (n : Nat) (hn : 1 ≤ n ∧ n ≤ 1024) (w : World) : Calls Try.prog 12 #[.int .i64 n] w (Made w n) := by
  obtain ⟨hn1, hn2⟩ := hn
  have h1 : (1 : Int) ≤ (n : Int) := by omega
  have h2 : (n : Int) ≤ 1024 := by omega
  have m1 := make48 n hn2
  have m2 := make62 n hn2
  have HF := Lib.hid (newD_at (n := n) (hn := hn2))
  generalize madeCells (fillA 0) (n * 64) = z48 at *
  generalize madeCells #[.int .i64 0] n = z62 at *
  go_enter Try.func12, Try.ntmps12
  go_wp2_with fail
  go_region
  all_goals
    go_wp2_with fail
    go_ret2
    first
      | exact ⟨⟨w.heap.size + 1 + 1, w.heap.size, w.heap.size + 1, .slice none 0 0⟩, rfl, HF.out _ _ _ _ _ (by omega) (by omega) (by omega) (by omega) (by omega) (by omega) (Blk.newAt _ _ _ (by simp) rfl) (((Blk.newAt _ _ _ rfl rfl).alloc _).alloc _) ((Blk.newAt _ _ _ (by simp) rfl).alloc _), ((((Below.refl _ _).alloc (Nat.le_refl _) _).alloc (by simp) _).alloc (by simp; omega) _).drew⟩
      | exact ⟨⟨w.heap.size + 1 + 1, w.heap.size + 1, w.heap.size, .slice none 0 0⟩, rfl, HF.out _ _ _ _ _ (by omega) (by omega) (by omega) (by omega) (by omega) (by omega) (Blk.newAt _ _ _ (by simp) rfl) ((Blk.newAt _ _ _ (by simp) rfl).alloc _) (((Blk.newAt _ _ _ rfl rfl).alloc _).alloc _), ((((Below.refl _ _).alloc (Nat.le_refl _) _).alloc (by simp) _).alloc (by simp; omega) _).drew⟩
end Go.Proofs.Ytdmjhpebpooiaaa
