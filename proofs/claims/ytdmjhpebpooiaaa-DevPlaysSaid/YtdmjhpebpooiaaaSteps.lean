/- The statements' own helpers: Mod, Fair; steps as they lie in memory. -/
import Derived.Test.YtdmjhpebpooiaaaSettle
namespace Go.Proofs.Ytdmjhpebpooiaaa
open Go.RowKit

theorem mod_eq (k n : Int) : (k.tmod n + n) % n = k % n := by
  rw [Int.add_emod_right]
  conv => rhs; rw [← Int.mul_tdiv_add_tmod k n, Int.mul_add_emod_self_left]
theorem mod_any (k n : Int) (h1 : 1 ≤ n) (h2 : n ≤ 1000) (w : World) : Calls Try.prog 27 #[.int .i64 k, .int .i64 n] w fun e w' => e = .returned (.int .i64 (k % n)) ∧ w = w' := by
  have HE := Lib.hid (mod_eq k n)
  have hb : -n < k.tmod n ∧ k.tmod n < n := ⟨Int.lt_tmod_of_pos k (by omega), Int.tmod_lt_of_pos k (by omega)⟩
  obtain ⟨hb1, hb2⟩ := hb
  go_enter Try.func27, Try.ntmps27
  go_wp2_with fail
  go_ret
  refine ⟨?_, rfl⟩
  rw [← HE.out]
  rfl

/-- A step: which call, of which sector, with which byte, which bytes. -/
structure St where
  kind : Int
  i : Int
  v : Int
  keep : List Int
structure StAt (w : World) (b o : Nat) (s : St) : Prop where
  kind : w.cell? ⟨b, o, none⟩ = some (.int .i64 s.kind)
  i : w.cell? ⟨b, o + 1, none⟩ = some (.int .i64 s.i)
  v : w.cell? ⟨b, o + 2, none⟩ = some (.int .u8 s.v)
  keep : ∃ kv, w.cell? ⟨b, o + 3, none⟩ = some kv ∧ BytesAt w kv s.keep
  hi : I64 s.i
theorem BytesAt.below {w w' : World} {v : Value} {l : List Int} (h : BytesAt w v l) (hb : Below w.heap.size w w') : BytesAt w' v l :=
  h.keep fun b o x _ hx => (hb.cell (p := ⟨b, o, none⟩) (World.block_lt_of_cell? _ _ hx)).trans hx
theorem StAt.below {w w' : World} {b o : Nat} {s : St} (h : StAt w b o s) (hb : Below w.heap.size w w') : StAt w' b o s :=
  have go : ∀ {o x}, w.cell? ⟨b, o, none⟩ = some x → w'.cell? ⟨b, o, none⟩ = some x := fun {o _} hx => (hb.cell (p := ⟨b, o, none⟩) (World.block_lt_of_cell? _ _ hx)).trans hx
  ⟨go h.kind, go h.i, go h.v, by obtain ⟨kv, hc, hk⟩ := h.keep; exact ⟨kv, go hc, hk.below hb⟩, h.hi⟩
def StsAt (w : World) (v : Value) (l : List St) : Prop := ∃ (a : Option Addr) (cap : Nat), v = .slice a l.length cap ∧ l.length ≤ maxLen ∧ ∀ i (h : i < l.length), ∃ b o, a = some ⟨b, o, none⟩ ∧ StAt w b (o + i * 4) l[i]
theorem StsAt.below {w w' : World} {v : Value} {l : List St} (h : StsAt w v l) (hb : Below w.heap.size w w') : StsAt w' v l := by
  obtain ⟨a, cap, e, hl, hc⟩ := h
  refine ⟨a, cap, e, hl, fun i hi => ?_⟩
  obtain ⟨b, o, ha, hs⟩ := hc i hi
  exact ⟨b, o, ha, hs.below hb⟩

def fairB (l : List St) : Bool := l.all (fun s => decide (s.keep.length ≤ 300)) && decide (l.length ≤ 200)
theorem fairB_mem {l : List St} (h : fairB l = true) : l.length ≤ 200 ∧ ∀ s ∈ l, s.keep.length ≤ 300 := by
  unfold fairB at h
  simp only [Bool.and_eq_true, List.all_eq_true, decide_eq_true_eq] at h
  exact ⟨h.2, h.1⟩
theorem fairB_no {l : List St} {i : Nat} (hi : i < l.length) (h : 300 < l[i].keep.length) : fairB l = false := by
  unfold fairB
  rw [Bool.and_eq_false_iff]
  left
  rw [List.all_eq_false]
  exact ⟨l[i], List.getElem_mem hi, by simp; omega⟩
theorem fairB_end {l : List St} (h : ∀ i (hi : i < l.length), l[i].keep.length ≤ 300) : fairB l = decide (l.length ≤ 200) := by
  unfold fairB
  have : l.all (fun s => decide (s.keep.length ≤ 300)) = true := by
    rw [List.all_eq_true]
    intro s hs
    obtain ⟨i, hi, rfl⟩ := List.mem_iff_getElem.1 hs
    simpa using h i hi
  rw [this, Bool.true_and]

set_option maxRecDepth 100000 in
theorem fair_any (v : Value) (l : List St) (w : World) (hs : StsAt w v l) : Calls Try.prog 10 #[v] w fun e w' => e = .returned (.bool (fairB l)) ∧ w = w' := by
  obtain ⟨a, cap, rfl, hl, hc⟩ := hs
  unfold maxLen at hl
  have HC := Lib.hid hc
  clear hc
  go_enter Try.func10, Try.ntmps10
  go_wp2_with fail
  go_loopg [3] l.length (fun g i wr => ∃ k : Nat, l.length - k ≤ g ∧ k ≤ l.length ∧ i = .int .i64 k ∧ (∀ j (hj : j < l.length), j < k → l[j].keep.length ≤ 300) ∧ w = wr)
  case atStart => exact ⟨0, by omega, by omega, rfl, fun j _ h => by omega, rfl⟩
  case round =>
    obtain ⟨k, hg, hk, rfl, hall, rfl⟩ := hrel
    have HAll := Lib.hid hall
    clear hall
    by_cases hlt : k < l.length
    · obtain ⟨b, o, rfl, hst⟩ := HC.out k hlt
      obtain ⟨kv, hkv, a2, c2, rfl, hl2, hrest⟩ := hst.keep
      unfold maxLen at hl2
      have HN := Lib.hid (fairB_no hlt)
      have HA2 : Hid (l[k].keep.length ≤ 300 → ∀ j (hj : j < l.length), j < k + 1 → l[j].keep.length ≤ 300) := Lib.hid fun h j hj hjk => by
        by_cases e : j = k
        · subst e; exact h
        · exact HAll.out j hj (by omega)
      have hk0 : (0 : Int) ≤ (k : Int) := by omega
      have hk1 : (k : Int) < (l.length : Int) := by omega
      clear hst hrest
      generalize l[k].keep.length = n at *
      by_cases hn : 300 < n
      · have HE := Lib.hid (HN.out hn)
        go_wp2_with fail
        go_ret
        exact ⟨by rw [HE.out]; rfl, rfl⟩
      · go_wp2_with fail
        go_roundg (l.length - (k + 1))
        case measure => omega
        case rel => exact ⟨k + 1, by omega, by omega, by go_num, HA2.out (by omega), rfl⟩
    · have hkl : k = l.length := by omega
      have HE := Lib.hid (show fairB l = decide ((l.length : Int) ≤ 200) by rw [fairB_end fun i hi => HAll.out i hi (by omega)]; exact decide_eq_decide.2 (by omega))
      subst hkl
      clear hlt
      go_wp2_with fail
      go_ret
      refine ⟨?_, rfl⟩
      rw [HE.out]
      rfl
end Go.Proofs.Ytdmjhpebpooiaaa
