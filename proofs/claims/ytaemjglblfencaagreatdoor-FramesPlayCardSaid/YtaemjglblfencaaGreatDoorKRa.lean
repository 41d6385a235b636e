/- The statements own clock: made. -/
import Derived.Test.YtaemjglblfencaaGreatDoorKCd
import Derived.Deep.Cut
import Derived.Deep.CutRange
import Derived.RegionTactic
import Derived.BigQuiet
import Derived.Deep.QuietTactic
namespace Go.Proofs.YtaemjglblfencaaGreatDoor
namespace Kl
set_option linter.unusedSimpArgs false
set_option linter.unusedVariables false
open Go.RowKit

theorem At.drew {E : Fm → List Value} {w : World} {b r cap : Nat} {tl : List Value} {c : Ck} (h : At E w b r cap tl c) : At E w.drew b r cap tl c := ⟨h.blk.drew, h.row.drew, h.ne⟩
/-- Frames of one's own: their row was made from B on. -/
def OwnF (w : World) (B : Nat) (sv : Value) (l : List Fm) : Prop := w.ownsRow B 95 3 sv l.length (l.flatMap encR)
theorem OwnF.nil (w : World) (B : Nat) : OwnF w B (.slice none 0 0) [] := World.ownsRow_nil w B 95 3
theorem OwnF.lt {w : World} {B : Nat} {sv : Value} {l : List Fm} (h : OwnF w B sv l) : ∀ k, sv.ownBlock = some k → B ≤ k ∧ k < w.heap.size := World.ownsRow.lt h
theorem OwnF.below {w w' : World} {B : Nat} {sv : Value} {l : List Fm} (h : OwnF w B sv l) (hb : Below w.heap.size w w') : OwnF w' B sv l := by
  refine ⟨h.1, ?_⟩
  rcases h.2 with hn | ⟨g, cap, cur, e, hB, hg, r⟩
  · exact .inl hn
  · exact .inr ⟨g, cap, cur, e, hB, (hb.block g (Array.getElem?_eq_some_iff.1 hg).1).trans hg, r⟩
theorem OwnF.setOther {w : World} {B : Nat} {sv : Value} {l : List Fm} (h : OwnF w B sv l) {a : Addr} (ha : a.block < B) (v : Value) : OwnF (w.setCell a v) B sv l := by
  refine ⟨h.1, ?_⟩
  rcases h.2 with hn | ⟨g, cap, cur, e, hB, hg, r⟩
  · exact .inl hn
  · exact .inr ⟨g, cap, cur, e, hB, (heap_setCell_other w a g v (by omega)).trans hg, r⟩
theorem OwnF.form {w : World} {B : Nat} {sv : Value} {l : List Fm} (h : OwnF w B sv l) : ∃ a cap, sv = .slice a l.length cap := by
  rcases h.2 with ⟨e, h0⟩ | ⟨g, cap, cur, e, _⟩
  · exact ⟨none, 0, by rw [e, h0]⟩
  · exact ⟨_, cap, e⟩
theorem info95 : (Tryz.prog.info? 95).map (fun i => (i.zero, i.size, i.bytes)) = some (some (.agg #[.int .i64 0, .int .i64 0, .bool false]), 3, 24) := by kernel_rfl
theorem inf95 : ∃ i, Tryz.prog.info? 95 = some i ∧ i.zero = some (.agg #[.int .i64 0, .int .i64 0, .bool false]) ∧ i.size = 3 ∧ i.bytes = 24 := by
  have := info95
  cases hq : Tryz.prog.info? 95 with
  | none => simp [hq] at this
  | some i => simp [hq] at this; exact ⟨i, rfl, this⟩
theorem encR_one : ∀ (l : List Fm), ∀ u ∈ l.flatMap encR, u.oneCell' = true := fun l u hu => by
  obtain ⟨f, -, hf⟩ := List.mem_flatMap.1 hu
  simp only [encR, List.mem_cons, List.not_mem_nil, or_false] at hf
  rcases hf with rfl | rfl | rfl <;> rfl
/-- One frame without a key appended. -/
theorem app_ownF {w : World} {B : Nat} {sv : Value} {l : List Fm} (h : OwnF w B sv l) (hB : B ≤ w.heap.size) (g : Nat) (hg : Blk w g [.int .i64 (-1), .int .i64 0, .bool false]) (hlen : l.length ≤ 1000) (ty : TypeId) :
    ∃ sv' w', (Builtin.append_ #[96, 96] ty #[sv, .slice (some ⟨g, 0, none⟩) 1 1]).run Tryz.prog w = .ok sv' w' ∧ OwnF w' B sv' (l ++ [noFm]) ∧ w.grownBy w' sv.ownBlock := by
  obtain ⟨i, hi, hz, hs, hby⟩ := inf95
  obtain ⟨v', w', hr, h2, h3, _⟩ := run_append_own (P := Tryz.prog) w B 96 ty 95 i (.agg #[.int .i64 0, .int .i64 0, .bool false]) 3 24 Tryz.underlying96 hi hz hs hby rfl (by decide) sv l.length (l.flatMap encR) h ⟨g, 0, none⟩ 1 1 ([noFm].flatMap encR) (by rfl) (fun j u hu => by
    rw [show (⟨g, 0, none⟩ : Addr).add j = ⟨g, j, none⟩ by unfold Addr.add; simp; omega]
    exact hg.cell hu) (encR_one _) (by simp only [maxLen]; omega) (by omega) hB
  refine ⟨v', w', hr, ?_, h3⟩
  unfold OwnF
  rw [List.length_append, List.flatMap_append]
  exact h2
section
variable {ops : Array Oper} {rest : List Oper} {dst : Option Tmp} {x y : Operand} {t2 : TypeId} {pos : String} {after : Array Edge} {guard : Option (Nat × Bool)} {a : Act} {w : World} {Q : Exit → Act → World → Prop}
theorem app_LF {B g : Nat} {sv : Value} {l : List Fm} (h : OwnF w B sv l) (hB : B ≤ w.heap.size) (hg : Blk w g [.int .i64 (-1), .int .i64 0, .bool false]) (hlen : l.length ≤ 1000) (hx : a.eval x = sv) (hy : a.eval y = .slice (some ⟨g, 0, none⟩) 1 1)
    (hw : Region.wanted ⟨dst, .call { callee := .builtin .append, args := #[x, y], argTypes := #[96, 96] }, t2, pos, after, guard⟩ (yielded ops a.tmps) = true)
    (hh : ∀ sv' w', OwnF w' B sv' (l ++ [noFm]) → w.grownBy w' sv.ownBlock → wpList Tryz.prog ops Q rest (a.put dst sv') w') : wpList Tryz.prog ops Q (⟨dst, .call { callee := .builtin .append, args := #[x, y], argTypes := #[96, 96] }, t2, pos, after, guard⟩ :: rest) a w := by
  obtain ⟨sv', w', hr, ho, hgr⟩ := app_ownF h hB g hg hlen t2
  exact wpList_run sv' w' hw (exec_app a.eval _ x y 96 96 rfl sv _ sv' hx hy hr) (hh sv' w' ho hgr)
end
theorem OwnF.at {w : World} {B b : Nat} {sv : Value} {l : List Fm} (h : OwnF w B sv l) (hl : 0 < l.length) (hd : Nat) (hb : Blk w b [sv, .int .i64 hd]) (hbB : b < B) : ∃ r cap tl, sv = .slice (some ⟨r, 0, none⟩) l.length cap ∧ At encR w b r cap tl ⟨l, hd⟩ ∧ B ≤ r := by
  rcases h.2 with ⟨e, h0⟩ | ⟨g, cap, cur, e, hB, hg, hn, hm, hs, ht⟩
  · omega
  · refine ⟨g, cap, cur.toList.drop (l.length * 3), e, ⟨by rw [e] at hb; exact hb, ⟨95, ?_⟩, by omega⟩, hB⟩
    rw [hg]
    have h2 : cur.toList = l.flatMap encR ++ cur.toList.drop (l.length * 3) := by
      rw [← ht]
      exact (List.take_append_drop _ _).symm
    rw [← h2]
theorem _root_.Go.Proofs.YtaemjglblfencaaGreatDoor.Blk.grown {w w' : World} {b : Nat} {l : List Value} {row : Option Nat} (h : Blk w b l) (hg : w.grownBy w' row) (hr : row ≠ some b) : Blk w' b l := h.of_block (hg.block b h.lt fun e => hr e.symm)
set_option maxRecDepth 100000 in
theorem rnew_no (w : World) (n : Int) (hn : n < 1 ∨ 16 < n) : Calls Tryz.prog 32 #[.int .i64 n] w fun e w' => e = .returned (.tuple #[.pointer none, .int .i64 1]) ∧ w = w' := by
  by_cases h1 : n < 1
  · have d1 : decide (n < 1) = true := decide_eq_true h1
    clear hn
    go_enter Tryz.func32, Tryz.ntmps32
    go_wp2_with fail
    go_ret2
    exact ⟨rfl, rfl⟩
  · have d1 : decide (n < 1) = false := decide_eq_false h1
    have d2 : decide (16 < n) = true := decide_eq_true (by omega)
    clear hn
    go_enter Tryz.func32, Tryz.ntmps32
    go_wp2_with fail
    go_ret2
    exact ⟨rfl, rfl⟩
theorem built95n : Tryz.prog.built 95 [(0, .int .i64 (-1))] = some #[.int .i64 (-1), .int .i64 0, .bool false] := by kernel_rfl
theorem built98 : Tryz.prog.built 98 [] = some #[.slice none 0 0, .int .i64 0] := by kernel_rfl
set_option maxRecDepth 100000 in
theorem rnew_yes (w : World) (n : Nat) (h1 : 1 ≤ n) (h2 : n ≤ 16) : Calls Tryz.prog 32 #[.int .i64 n] w fun e w' => ∃ b r cap tl, e = .returned (.tuple #[.pointer (some ⟨b, 0, none⟩), .int .i64 0]) ∧ At encR w' b r cap tl (newCk n) ∧ Below w.heap.size w w' ∧ w.heap.size ≤ b ∧ w.heap.size ≤ r := by
  have d1 : decide ((n : Int) < 1) = false := decide_eq_false (by omega)
  have d2 : decide (16 < (n : Int)) = false := decide_eq_false (by omega)
  have b43 := built98
  go_enter Tryz.func32, Tryz.ntmps32
  go_wp2_with fail
  have HN0 : Hid (Blk (w.alloc (.cells #[.slice none 0 0, .int .i64 0] 98)) w.heap.size [.slice none 0 0, .int .i64 0]) := Lib.hid (Blk.newAt _ _ _ rfl rfl)
  have HB0 := Lib.hid (alloc_below w (.cells #[.slice none 0 0, .int .i64 0] 98))
  generalize w.alloc (.cells #[.slice none 0 0, .int .i64 0] 98) = w1 at *
  have HL0 : Hid (w.heap.size < w1.heap.size) := Lib.hid HN0.out.lt
  go_loopg [5] n (fun q i wr => ∃ (k : Nat) (sv : Value), n - k ≤ q ∧ k ≤ n ∧ i = .int .i64 k ∧ Blk wr w.heap.size [sv, .int .i64 0] ∧ OwnF wr (w.heap.size + 1) sv (List.replicate k noFm) ∧ Below w.heap.size w wr ∧ w.heap.size < wr.heap.size)
  case atStart => exact ⟨0, _, by omega, by omega, rfl, HN0.out, OwnF.nil _ _, HB0.out, HL0.out⟩
  case round =>
    obtain ⟨k, sv, hq, hk, rfl, hbk, how, hb, hls⟩ := hrel
    have HK := Lib.hid hbk
    have HO := Lib.hid how
    have HB := Lib.hid hb
    have HLS := Lib.hid hls
    obtain ⟨sa, sc, hsv⟩ := how.form
    rw [List.length_replicate] at hsv
    subst hsv
    have b0 := hbk.cell (i := 0) rfl
    have z0 := hbk.frozen 0
    clear hbk how hb hls
    by_cases hlt : k < n
    · have hk1 : (k : Int) < (n : Int) := by omega
      have gw : IntKind.i64.wrap ((k : Int) + 1) = (k : Int) + 1 := wrap63 (by omega) (by omega)
      have b45 := built95n
      go_upto_region 7 with fail
      refine wp_region_lit ?_
      refine takeL (.pointer (some ⟨w.heap.size, 0, none⟩)) rfl (by go_simp) ?_
      try simp only [Act.put, List.setIfInBounds_toArray, List.set_cons_succ, List.set_cons_zero]
      refine takeL (.pointer (some ⟨w.heap.size, 0, none⟩)) rfl (by go_simp) ?_
      try simp only [Act.put, List.setIfInBounds_toArray, List.set_cons_succ, List.set_cons_zero]
      refine takeL (.pointer (some ⟨w.heap.size, 0, none⟩)) rfl (by go_simp) ?_
      try simp only [Act.put, List.setIfInBounds_toArray, List.set_cons_succ, List.set_cons_zero]
      refine takeL (.pointer (some ⟨w.heap.size, 0, none⟩)) rfl (by go_simp) ?_
      try simp only [Act.put, List.setIfInBounds_toArray, List.set_cons_succ, List.set_cons_zero]
      refine takeL (.slice sa k sc) rfl (by go_simp) ?_
      try simp only [Act.put, List.setIfInBounds_toArray, List.set_cons_succ, List.set_cons_zero]
      refine takeL (.agg #[.int .i64 (-1), .int .i64 0, .bool false]) rfl (by go_simp) ?_
      try simp only [Act.put, List.setIfInBounds_toArray, List.set_cons_succ, List.set_cons_zero]
      refine wpList_run (.slice (some ⟨wr.heap.size, 0, none⟩) 1 1) (wr.alloc (.cells #[.int .i64 (-1), .int .i64 0, .bool false] 95)) rfl (by go_simp) ?_
      try simp only [Act.put, List.setIfInBounds_toArray, List.set_cons_succ, List.set_cons_zero]
      have hb1 := alloc_below wr (.cells #[.int .i64 (-1), .int .i64 0, .bool false] 95)
      have HBA := Lib.hid hb1
      have HKA := Lib.hid (HK.out.below hb1 HK.out.lt)
      refine app_LF (HO.out.below hb1) (Nat.le_trans HLS.out hb1.size) (Blk.newAt _ _ _ rfl rfl) (by rw [List.length_replicate]; omega) rfl rfl rfl ?_
      intro tv w8 ho hg8
      try simp only [Act.put, List.setIfInBounds_toArray, List.set_cons_succ, List.set_cons_zero]
      rw [show List.replicate k noFm ++ [noFm] = List.replicate (k + 1) noFm from List.replicate_succ'.symm] at ho
      have HO8 := Lib.hid ho
      have HK8 : Hid (Blk w8 w.heap.size [.slice sa k sc, .int .i64 0]) := Lib.hid (HKA.out.grown hg8 fun e => by have := (HO.out.lt _ e).1; omega)
      have HB8 : Hid (Below w.heap.size w w8) := Lib.hid ((stay HB.out hb1).trans (grown_below hg8 (Nat.le_trans (Nat.le_of_lt HLS.out) hb1.size) fun k hk => by have := (HO.out.lt k hk).1; omega))
      have HL8 : Hid (w.heap.size < w8.heap.size) := Lib.hid HK8.out.lt
      obtain ⟨ta, tc, htv⟩ := ho.form
      rw [List.length_replicate] at htv
      subst htv
      have c0 := HK8.out.cell (i := 0) rfl
      have y0 := HK8.out.frozen 0
      clear hb1 ho hg8 HK HO HB HLS HBA HKA b0 z0
      go_wp2_with fail
      go_roundg (n - (k + 1))
      case measure => omega
      case rel => exact ⟨k + 1, _, by omega, by omega, by go_num, HK8.out.set 0 _, HO8.out.setOther (by simp) _, HB8.out.setCell (by simp) _, by simpa using HL8.out⟩
    · obtain rfl : k = n := by omega
      have hk1 : ¬ (k : Int) < (k : Int) := by omega
      go_wp2_with fail
      go_ret2
      obtain ⟨r, cap, tl, -, hat, hr⟩ := HO.out.at (by rw [List.length_replicate]; omega) 0 HK.out (by omega)
      exact ⟨w.heap.size, rfl, r, ⟨cap, tl, hat⟩, HB.out, Nat.le_refl _, by omega⟩

end Kl
end Go.Proofs.YtaemjglblfencaaGreatDoor
