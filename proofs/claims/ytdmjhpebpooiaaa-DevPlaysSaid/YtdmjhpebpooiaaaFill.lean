/- The contract of the helper that makes a sector of one byte. -/
import Derived.Test.YtdmjhpebpooiaaaAt
namespace Go.Proofs.Ytdmjhpebpooiaaa
open Go.RowKit

theorem info37 : (Try.prog.info? 37).map (·.size) = some 64 := by kernel_rfl
theorem info69 : (Try.prog.info? 69).map (·.size) = some 65 := by kernel_rfl

theorem results_cell_at {P : Program} {fn : Func} {p : Tmp} {ty : TypeId} (h : fn.results = #[.cell p ty]) (tmps : Array Value) (w : World) (g off : Nat) (cs : Array Value) (d : TypeDesc)
    (hp : tmps.getD p undef = .pointer (some ⟨g, off, none⟩)) (hu : P.underlying ty = some d) (hd : (match d with | .struct _ | .array _ _ => true | _ => false) = true) (hi : (P.info? ty).map (·.size) = some cs.size)
    (hc : ∀ j (h : j < cs.size), w.cell? ⟨g, off + j, none⟩ = some cs[j]) :
    (results fn tmps).run P w = .ok (.agg cs) w := by
  have hp' : tmps[p]?.getD undef = .pointer (some ⟨g, off, none⟩) := by simpa using hp
  simp [results, h, hp', asAddr, run_load_at w g off ty cs d hu hd hi hc]

theorem Blk.cells {w : World} {b : Nat} {l : List Value} (h : Blk w b l) (cs : Array Value) (e : l = cs.toList) : ∀ j (hj : j < cs.size), w.cell? ⟨b, 0 + j, none⟩ = some cs[j] := fun j hj => by
  subst e
  exact h.cell (by simp [hj])

theorem Blk.newAt {w : World} {cs : Array Value} (t : TypeId) (n : Nat) (l : List Value) (hn : n = w.heap.size) (hl : l = cs.toList) : Blk (w.alloc (.cells cs t)) n l := by
  subst hn
  subst hl
  exact Blk.new w cs t

theorem splice_all (l : List Value) (cs : Array Value) (h : l.length = cs.size) : splice l 0 cs = cs := by
  unfold splice
  rw [List.take_zero, List.drop_of_length_le (by omega)]
  simp

def filled (v : Int) (k : Nat) : List Value := List.replicate k (.int .u8 v) ++ List.replicate (64 - k) (.int .u8 0)
theorem filled_set (v : Int) (k : Nat) (h : k < 64) : (filled v k).set k (.int .u8 v) = filled v (k + 1) := by
  unfold filled
  rw [List.set_append_right _ _ (by simp), show 64 - k = (64 - (k + 1)) + 1 by omega, List.replicate_succ]
  simp only [List.length_replicate, Nat.sub_self, List.set_cons_zero]
  rw [List.replicate_succ', List.append_assoc]
  rfl
theorem filled_at (v : Int) (k : Nat) (h : k < 64) : (filled v k)[k]? = some (.int .u8 0) := by
  unfold filled
  rw [List.getElem?_append_right (by simp)]
  simp only [List.length_replicate, Nat.sub_self]
  rw [List.getElem?_replicate, if_pos (by omega)]
theorem filled_all (v : Int) : filled v 64 = (fillA v).toList := by simp [filled, fillA]

set_option maxRecDepth 100000 in
theorem fill_any (v : Int) (w : World) : Calls Try.prog 15 #[.int .u8 v] w fun e w' => e = .returned (.agg (fillA v)) ∧ Below w.heap.size w w' := by
  go_enter Try.func15, Try.ntmps15
  go_wp2_with fail
  obtain ⟨c0, e0⟩ : ∃ c, c = w.heap.size := ⟨_, rfl⟩
  rw [← e0]
  obtain ⟨c1, e1⟩ : ∃ c, c = c0 + 1 := ⟨_, rfl⟩
  rw [← e1]
  have E0 := Lib.hid e0
  have E1 := Lib.hid e1
  clear e0 e1
  go_loopg [4] 64 (fun g i wr => ∃ k : Nat, 64 - k ≤ g ∧ k ≤ 64 ∧ i = .int .i64 k ∧ Blk wr c0 (List.replicate 64 (.int .u8 0)) ∧ Blk wr c1 (filled v k) ∧ Below c0 w wr)
  case atStart =>
    have E0 := E0.out
    have E1 := E1.out
    subst E0
    subst E1
    refine ⟨0, by omega, by omega, rfl, ?_, ?_, ((Below.refl _ _).alloc (Nat.le_refl _) _).alloc (by simp) _⟩
    · exact (Blk.new w _ _).alloc _
    · exact Blk.newAt _ _ _ (by simp) rfl
  case round =>
    obtain ⟨k, hg, hk, rfl, hb0, hb1, hbel⟩ := hrel
    by_cases hlt : k < 64
    · have hcell := hb1.cell (filled_at v k hlt)
      have hfro := hb1.frozen k
      have HB0 := Lib.hid hb0
      have HB1 := Lib.hid hb1
      have HBel := Lib.hid hbel
      clear hb0 hb1 hbel
      go_wp2_with fail
      go_roundg (64 - (k + 1))
      case measure => omega
      case rel =>
        have E1 := E1.out
        refine ⟨k + 1, by omega, by omega, by go_num, HB0.out.setOther (by simp only; omega) _, ?_, HBel.out.setCell (by simp only; omega) _⟩
        have := HB1.out.set k (.int .u8 v)
        rw [filled_set v k hlt] at this
        exact this
    · have hk64 : k = 64 := by omega
      subst hk64
      have HB0 := Lib.hid hb0
      have HB1 := Lib.hid hb1
      have HBel := Lib.hid hbel
      clear hb0 hb1 hbel hlt
      go_wp2_with (first | (refine wpList_load_at rfl 37 _ rfl c1 0 rfl (fillA v) _ Try.underlying37 rfl info37 (HB1.out.cells _ (filled_all v)) ?_) | (refine wpList_store_at rfl 37 _ _ rfl c0 0 (fillA v) rfl rfl _ HB0.out info37 (by simp [fillA]) (fillA_sec v).one ?_))
      have HZ := HB0.out.row (splice (List.replicate 64 (Value.int IntKind.u8 0)) 0 (fillA v))
      rw [splice_all _ _ (by simp [fillA])] at HZ
      have E0 := E0.out
      refine bodyPost_ret (v := .agg (fillA v)) (results_cell_at rfl _ _ c0 0 (fillA v) _ rfl Try.underlying37 rfl info37 ?_) rfl ⟨rfl, ?_⟩
      · rw [splice_all _ _ (by simp [fillA])]
        exact HZ.cells _ rfl
      · rw [← E0]
        exact ((Only.of_below (S := fun k => c0 ≤ k) (HBel.out.mono (by omega))).setRow (.inl (Nat.le_refl _)) _).below (by omega) (fun _ h => h)
end Go.Proofs.Ytdmjhpebpooiaaa
