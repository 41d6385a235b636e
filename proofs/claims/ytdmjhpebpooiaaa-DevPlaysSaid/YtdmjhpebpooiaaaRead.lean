/- The contract of a device's Read. -/
import Derived.Test.YtdmjhpebpooiaaaOps
namespace Go.Proofs.Ytdmjhpebpooiaaa
open Go.RowKit

theorem results_cell_tmp {P : Program} {fn : Func} {p q : Tmp} {ty : TypeId} (h : fn.results = #[.cell p ty, .tmp q]) (tmps : Array Value) (w : World) (g off : Nat) (cs : Array Value) (d : TypeDesc) (v : Value)
    (hp : tmps.getD p undef = .pointer (some ⟨g, off, none⟩)) (hv : tmps.getD q undef = v) (hu : P.underlying ty = some d) (hd : (match d with | .struct _ | .array _ _ => true | _ => false) = true) (hi : (P.info? ty).map (·.size) = some cs.size)
    (hc : ∀ j (h : j < cs.size), w.cell? ⟨g, off + j, none⟩ = some cs[j]) :
    (results fn tmps).run P w = .ok (.tuple #[.agg cs, v]) w := by
  have hp' : tmps[p]?.getD undef = .pointer (some ⟨g, off, none⟩) := by simpa using hp
  have hv' : tmps[q]?.getD undef = v := by simpa using hv
  simp [results, h, hp', hv', asAddr, run_load_at w g off ty cs d hu hd hi hc]

theorem built37 : Try.prog.built 37 [] = some (fillA 0) := by kernel_rfl
theorem build37 (w : World) : (Instr.build 37 #[]).run Try.prog w = .ok (.agg (fillA 0)) w := run_build w 37 _ _ built37

def zeros64 : List Value := List.replicate 64 (.int .u8 0)
set_option maxRecDepth 100000 in
theorem read_no (w : World) (base : Nat) (A : Addrs) (d : D) (h : DevAt w base A d) (i : Int) (hi : d.has i = false) :
    Calls Try.prog 17 #[.pointer (some ⟨A.b, 0, none⟩), .int .i64 i] w fun e w' => e = .returned (.tuple #[.agg (fillA 0), .int .i64 1]) ∧ Below w.heap.size w w' := by
  have HA := Lib.hid h
  clear h
  go_enter Try.func17, Try.ntmps17
  go_wp2_with fail
  have hb := Blk.newAt (w := w) (cs := (fillA 0)) 37 _ zeros64 rfl rfl
  obtain ⟨wA, hw⟩ : ∃ wA, wA = w.alloc (.cells (fillA 0) 37) := ⟨_, rfl⟩
  change Calls _ _ _ (w.alloc (.cells (fillA 0) 37)) _
  rw [← hw] at hb ⊢
  have H := Lib.hid (ask_read wA base A d (by rw [hw]; exact HA.out.only (S := fun _ => False) ((Only.refl _ _).alloc _) (fun _ _ h => h)) i)
  have HBel := Lib.hid (show Below w.heap.size w wA by rw [hw]; exact (Below.refl _ _).alloc (Nat.le_refl _) _)
  unfold D.readE at H
  rw [hi] at H
  rw [if_neg (by simp)] at H
  have HB := Lib.hid hb
  clear hb hw hi
  refine H.out.mono ?_
  rintro e w' ⟨rfl, rfl⟩
  go_wp2_with (first | (refine wpList_run _ _ rfl (exec_build _ _ _ _ 37 _ rfl #[] (by simp) _ (build37 _)) ?_) | (refine wpList_store_at rfl 37 _ _ rfl w.heap.size 0 (fillA 0) rfl rfl _ HB.out info37 (by simp [fillA, zeros64]) (fillA_sec 0).one ?_))
  have HZ := HB.out.row (splice zeros64 0 (fillA 0))
  rw [splice_all _ _ (by simp [fillA, zeros64])] at HZ
  refine bodyPost_ret (v := .tuple #[.agg (fillA 0), .int .i64 1]) (results_cell_tmp rfl _ _ w.heap.size 0 (fillA 0) _ _ rfl rfl Try.underlying37 rfl info37 ?_) rfl ⟨rfl, ?_⟩
  · rw [splice_all _ _ (by simp [fillA, zeros64])]
    exact HZ.cells _ rfl
  · exact ((Only.of_below (S := fun k => w.heap.size ≤ k) HBel.out).setRow (.inl (Nat.le_refl _)) _).below (Nat.le_refl _) (fun _ h => h)

theorem read_yes_eq {d : D} {k : Nat} {s : Array Value} (hk : k < d.S.length) (h : (app d.S d.L)[k]? = some s) : d.read (k : Int) = s ∧ d.readE (k : Int) = 0 := by
  have hh : d.has (k : Int) = true := by unfold D.has; simp [hk]
  unfold D.read D.readE
  rw [if_pos hh, if_pos hh, Int.toNat_natCast, List.getD_eq_getElem?_getD, h]
  exact ⟨rfl, rfl⟩

set_option maxRecDepth 100000 in
theorem read_yes (w : World) (base : Nat) (A : Addrs) (d : D) (h : DevAt w base A d) (hLn : d.L.length ≤ 1000000) (k : Nat) (hk : k < d.S.length) :
    Calls Try.prog 17 #[.pointer (some ⟨A.b, 0, none⟩), .int .i64 k] w fun e w' => e = .returned (.tuple #[.agg (d.read k), .int .i64 0]) ∧ Below w.heap.size w w' := by
  have HA := Lib.hid h
  obtain ⟨N, hd⟩ := h
  have HD := Lib.hid hd
  have hlen := hd.len
  obtain ⟨m, hm⟩ : ∃ m, N[k]? = some m := ⟨_, List.getElem?_eq_getElem (by have := hd.hN; omega)⟩
  have hok := hd.ok k m hm
  have HM := Lib.hid hm
  clear hd hm
  have hk0 : (0 : Int) ≤ (k : Int) := by omega
  have hk1 : (k : Int) < (d.S.length : Int) := by omega
  obtain ⟨s, hs, hcase⟩ : ∃ s, (app d.S d.L)[k]? = some s ∧ ((m = 0 ∧ d.S[k]? = some s) ∨ (∃ j, m = j + 1 ∧ d.L[j]? = some (k, s))) := by
    rcases hok with ⟨h0, hp⟩ | ⟨h0, s, hs, hS⟩
    · exact ⟨d.S[k], by rw [app_none _ _ _ hp]; simp, .inl ⟨h0, by simp⟩⟩
    · exact ⟨s, hS d.S hk, .inr ⟨m - 1, by omega, hs⟩⟩
  have hsec : Sec s := app_sec HD.out.hS (fun p hp => (HD.out.hL p hp).1) s (List.mem_of_getElem? hs)
  obtain ⟨e1, e2⟩ := read_yes_eq hk hs
  rw [e1]
  have E2 := Lib.hid e2
  have HS := Lib.hid hsec
  clear hok e1 e2 hs hsec
  go_enter Try.func17, Try.ntmps17
  go_wp2_with fail
  have hb := Blk.newAt (w := w) (cs := (fillA 0)) 37 _ zeros64 rfl rfl
  obtain ⟨wA, hw⟩ : ∃ wA, wA = w.alloc (.cells (fillA 0) 37) := ⟨_, rfl⟩
  change Calls _ _ _ (w.alloc (.cells (fillA 0) 37)) _
  rw [← hw] at hb ⊢
  have HOn := Lib.hid (show Only (fun _ => False) w wA by rw [hw]; exact (Only.refl _ _).alloc _)
  have hd2 := HD.out.only HOn.out (fun _ _ h => h)
  have H := Lib.hid (ask_read wA base A d ⟨N, hd2⟩ k)
  rw [E2.out] at H
  have HBel := Lib.hid (show Below w.heap.size w wA by rw [hw]; exact (Below.refl _ _).alloc (Nat.le_refl _) _)
  have HB := Lib.hid hb
  have c0 := hd2.c0
  have c1 := hd2.c1
  have c2 := hd2.c2
  have c3 : wA.cell? ⟨A.nb, k, none⟩ = some (.int .i64 (m : Int)) := hd2.last.cell (by rw [List.getElem?_map, HM.out]; rfl)
  have HD2 := Lib.hid hd2
  clear hb hw hd2
  have HZ := HB.out.row (splice zeros64 0 s)
  rw [splice_all _ _ (by rw [HS.out.size]; rfl)] at HZ
  have HZ2 := Lib.hid HZ
  clear HZ
  have HFin := Lib.hid (((Only.of_below (S := fun k => w.heap.size ≤ k) HBel.out).setRow (g := w.heap.size) (.inl (Nat.le_refl _)) (splice zeros64 0 s)).below (B := w.heap.size) (Nat.le_refl _) (fun _ h => h))
  rw [splice_all _ _ (by rw [HS.out.size]; rfl)] at HFin
  rcases hcase with ⟨rfl, hSk⟩ | ⟨j, rfl, hLj⟩
  · have hload : ∀ j (hj : j < s.size), wA.cell? ⟨A.sb, k * 64 + j, none⟩ = some s[j] := fun j hj => by
      have := flat_at HD.out.hS hSk (j := j) (by have := HS.out.size; omega)
      exact HD2.out.sec.cell (by rw [this]; simp [hj])
    have HL := Lib.hid hload
    clear hSk hload c1
    refine H.out.mono ?_
    rintro e w' ⟨rfl, rfl⟩
    go_wp2_with (first | (refine wpList_load_at rfl 37 _ rfl A.sb (k * 64) rfl s _ Try.underlying37 rfl (by rw [HS.out.size]; exact info37) HL.out ?_) | (refine wpList_store_at rfl 37 _ _ rfl w.heap.size 0 s rfl rfl _ HB.out (by rw [HS.out.size]; exact info37) (by simp [zeros64]; exact Nat.le_of_eq HS.out.size) HS.out.one ?_))
    rw [splice_all _ _ (by rw [HS.out.size]; rfl)]
    exact bodyPost_ret (v := .tuple #[.agg s, .int .i64 0]) (results_cell_tmp rfl _ _ w.heap.size 0 s _ _ rfl rfl Try.underlying37 rfl (by rw [HS.out.size]; exact info37) (HZ2.out.cells _ rfl)) rfl ⟨rfl, HFin.out⟩
  · have hg : ∃ g cap, A.lv = .slice (some ⟨g, 0, none⟩) d.L.length cap := by
      obtain ⟨g, cap, e, _⟩ := HD.out.own.form (by have := (List.getElem?_eq_some_iff.1 hLj).1; omega)
      exact ⟨g, cap, e⟩
    obtain ⟨g, cap, hg⟩ := hg
    have hjl : j < d.L.length := (List.getElem?_eq_some_iff.1 hLj).1
    have hload : ∀ x (hx : x < s.size), wA.cell? ⟨g, j * 65 + 1 + x, none⟩ = some s[x] := fun x hx => by
      have hown := HD2.out.own
      rw [hg] at hown
      have h65 : 1 + x < 65 := by have := HS.out.size; omega
      rw [hown.cellAt (j * 65 + 1 + x) (by omega)]
      have := flatL_at (fun p hp => (HD.out.hL p hp).1) hLj (j := 1 + x) h65
      rw [Nat.add_assoc, this, Nat.add_comm 1 x]
      simp [hx]
    have HL := Lib.hid hload
    rw [hg] at c1
    have hj0 : (0 : Int) ≤ (j : Int) := by omega
    have hj1 : (j : Int) < (d.L.length : Int) := by omega
    have e1 : ((j + 1 : Nat) : Int) - 1 = (j : Int) := by omega
    have hj2 : (0 : Int) < ((j + 1 : Nat) : Int) := by omega
    clear hLj hload hg
    refine H.out.mono ?_
    rintro e w' ⟨rfl, rfl⟩
    go_wp2_with (first | (refine wpList_load_at rfl 37 _ rfl g (j * 65 + 1) rfl s _ Try.underlying37 rfl (by rw [HS.out.size]; exact info37) HL.out ?_) | (refine wpList_store_at rfl 37 _ _ rfl w.heap.size 0 s rfl rfl _ HB.out (by rw [HS.out.size]; exact info37) (by simp [zeros64]; exact Nat.le_of_eq HS.out.size) HS.out.one ?_))
    rw [splice_all _ _ (by rw [HS.out.size]; rfl)]
    exact bodyPost_ret (v := .tuple #[.agg s, .int .i64 0]) (results_cell_tmp rfl _ _ w.heap.size 0 s _ _ rfl rfl Try.underlying37 rfl (by rw [HS.out.size]; exact info37) (HZ2.out.cells _ rfl)) rfl ⟨rfl, HFin.out⟩

theorem read_any (w : World) (base : Nat) (A : Addrs) (d : D) (h : DevAt w base A d) (hLn : d.L.length ≤ 1000000) (i : Int) :
    Calls Try.prog 17 #[.pointer (some ⟨A.b, 0, none⟩), .int .i64 i] w fun e w' => e = .returned (.tuple #[.agg (d.read i), .int .i64 (d.readE i)]) ∧ Below w.heap.size w w' := by
  cases hh : d.has i
  · have := read_no w base A d h i hh
    have e1 : d.read i = fillA 0 := by unfold D.read; rw [hh]; rfl
    have e2 : d.readE i = 1 := by unfold D.readE; rw [hh]; rfl
    rw [e1, e2]
    exact this
  · have e2 : d.readE i = 0 := by unfold D.readE; rw [hh]; rfl
    rw [e2]
    obtain ⟨k, rfl, hk⟩ : ∃ k : Nat, i = k ∧ k < d.S.length := by
      unfold D.has at hh
      simp only [Bool.and_eq_true, decide_eq_true_eq] at hh
      exact ⟨i.toNat, by omega, by omega⟩
    exact read_yes w base A d h hLn k hk
set_option maxRecDepth 100000 in
theorem read_nil (i : Int) (w : World) : Calls Try.prog 17 #[.pointer none, .int .i64 i] w fun e w' => e = .returned (.tuple #[.agg (fillA 0), .int .i64 1]) ∧ Below w.heap.size w w' := by
  go_enter Try.func17, Try.ntmps17
  go_wp2_with fail
  have hb := Blk.newAt (w := w) (cs := (fillA 0)) 37 _ zeros64 rfl rfl
  obtain ⟨wA, hw⟩ : ∃ wA, wA = w.alloc (.cells (fillA 0) 37) := ⟨_, rfl⟩
  change Calls _ _ _ (w.alloc (.cells (fillA 0) 37)) _
  rw [← hw] at hb ⊢
  have H := Lib.hid (ask_nil wA 0 i)
  have HBel := Lib.hid (show Below w.heap.size w wA by rw [hw]; exact (Below.refl _ _).alloc (Nat.le_refl _) _)
  have HB := Lib.hid hb
  clear hb hw
  refine H.out.mono ?_
  rintro e w' ⟨rfl, rfl⟩
  go_wp2_with (first | (refine wpList_run _ _ rfl (exec_build _ _ _ _ 37 _ rfl #[] (by simp) _ (build37 _)) ?_) | (refine wpList_store_at rfl 37 _ _ rfl w.heap.size 0 (fillA 0) rfl rfl _ HB.out info37 (by simp [fillA, zeros64]) (fillA_sec 0).one ?_))
  have HZ := HB.out.row (splice zeros64 0 (fillA 0))
  rw [splice_all _ _ (by simp [fillA, zeros64])] at HZ
  refine bodyPost_ret (v := .tuple #[.agg (fillA 0), .int .i64 1]) (results_cell_tmp rfl _ _ w.heap.size 0 (fillA 0) _ _ rfl rfl Try.underlying37 rfl info37 ?_) rfl ⟨rfl, ?_⟩
  · rw [splice_all _ _ (by simp [fillA, zeros64])]
    exact HZ.cells _ rfl
  · exact ((Only.of_below (S := fun k => w.heap.size ≤ k) HBel.out).setRow (.inl (Nat.le_refl _)) _).below (Nat.le_refl _) (fun _ h => h)
end Go.Proofs.Ytdmjhpebpooiaaa
