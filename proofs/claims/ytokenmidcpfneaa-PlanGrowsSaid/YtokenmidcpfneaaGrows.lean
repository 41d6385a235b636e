/- The statement PlanGrows' walk. -/
import Derived.Test.YtokenmidcpfneaaWhere
import Derived.Test.YtokenmidcpfneaaWakes
import Derived.Deep.Cut
namespace Go.Proofs.Ytokenmidcpfneaa
open Go.RowKit
/-- With a segment more; with a page more. -/
def Gm.more (g : Gm) : Gm := ⟨g.p, g.s + 1, g.l, g.f⟩
def Gm.next (g : Gm) : Gm := ⟨g.p + 1, g.s, g.l, g.f⟩
theorem Gm.more_total (g : Gm) : 4 + g.more.s * g.more.l = 4 + g.s * g.l + g.l := by
  show 4 + (g.s + 1) * g.l = _
  rw [Int.add_mul]
  omega
theorem Gm.maps_div {g : Gm} (h : g.Ok) : g.maps = (g.p + 7) / 8 := by
  obtain ⟨⟨h1, h2⟩, _, _, _⟩ := h
  unfold Gm.maps
  rw [Int.tdiv_eq_ediv_of_nonneg (by omega)]
theorem Gm.Ok.cap {g : Gm} (h : g.Ok) : 0 ≤ g.cap ∧ g.cap ≤ 64 := by
  obtain ⟨⟨h1, h2⟩, _, _, _⟩ := h
  unfold Gm.cap
  omega
theorem Gm.more_cap {g : Gm} (_ : g.Ok) : g.cap ≤ g.more.cap := by
  unfold Gm.cap
  rw [show g.more.maps = g.maps from rfl, show g.more.s = g.s + 1 from rfl, show g.more.p = g.p from rfl]
  omega
theorem Gm.next_maps {g : Gm} (h : g.Ok) (k : g.next.Ok) : (g.p % 8 = 0 → g.next.maps = g.maps + 1) ∧ (¬ g.p % 8 = 0 → g.next.maps = g.maps) := by
  rw [Gm.maps_div h, Gm.maps_div k, show g.next.p = g.p + 1 from rfl]
  omega
theorem Gm.next_cap {g : Gm} (h : g.Ok) (k : g.next.Ok) : g.next.cap ≤ g.cap + 1 := by
  obtain ⟨m0, m1⟩ := Gm.next_maps h k
  unfold Gm.cap
  rw [show g.next.s = g.s from rfl, show g.next.p = g.p + 1 from rfl]
  omega
theorem GAt.drew {w : World} {b : Nat} {g : Gm} (h : GAt w b g) : GAt w.drew b g := ⟨h.p, h.s, h.l, h.f⟩
theorem grows_pair {g : Gm} {w w1 : World} (h : Below w.heap.size w w1 ∧ GAt w1 w.heap.size g ∧ w.heap.size < w1.heap.size) :
    Below w.heap.size w (g.box (g.box w1)).drew ∧ GAt (g.box (g.box w1)).drew w.heap.size g ∧ w.heap.size < w1.heap.size ∧ Blk (g.box (g.box w1)).drew w1.heap.size [.int .i64 g.p, .int .i64 g.s, .int .i64 g.l, .int .i64 g.f] ∧ Blk (g.box (g.box w1)).drew (w1.heap.size + 1) [.int .i64 g.p, .int .i64 g.s, .int .i64 g.l, .int .i64 g.f] := by
  refine ⟨?_, ?_, h.2.2, ?_, ?_⟩
  · exact ((h.1.alloc h.1.size _).alloc (by have := h.1.size; simp; omega) _).drew
  · exact ((h.2.1.allocs h.2.2 _).allocs (by have := h.2.2; simp; omega) _).drew
  · exact (Blk.alloc (Blk.newAt 23 _ _ rfl rfl) _).drew
  · exact (Blk.newAt 23 _ _ (by simp) rfl).drew
theorem Blk.setOther {w : World} {b : Nat} {l : List Value} (h : Blk w b l) {a : Addr} (hne : b ≠ a.block) (v : Value) : Blk (w.setCell a v) b l :=
  h.of_block (heap_setCell_other w a b v hne)
theorem GAt.setOther {w : World} {b : Nat} {g : Gm} (h : GAt w b g) {a : Addr} (hne : b ≠ a.block) (v : Value) : GAt (w.setCell a v) b g :=
  have go : ∀ {o x}, w.cell? ⟨b, o, none⟩ = some x → (w.setCell a v).cell? ⟨b, o, none⟩ = some x := fun {_ _} hx => (World.cell?_of_block (heap_setCell_other w a b v hne)).trans hx
  ⟨go h.p, go h.s, go h.l, go h.f⟩

theorem grows_no (g : Gm) (h : ¬ g.Ok) (w : World) : Calls Try.prog 5 #[g.v] w fun e w' => e = .returned (.bool true) ∧ Below w.heap.size w w' := by
  have H10 := Lib.hid fun w => rgood_no g h w
  have H9 := Lib.hid fun w => good_no g h w
  clear h
  go_enter Try.func5, Try.ntmps5
  go_wp2_with fail
  refine (H10.out _).mono ?_
  rintro e w1 ⟨rfl, hb⟩
  have HB := Lib.hid (box_call hb)
  clear hb
  obtain ⟨c0, c1, c2, c3⟩ := HB.out.2.1
  go_wp2_with fail
  refine (H9.out _).mono ?_
  rintro e w2 ⟨rfl, hb⟩
  have HB2 := Lib.hid (further HB.out hb)
  clear hb
  go_wp2_with fail
  refine (wakes_any _).mono ?_
  rintro e w3 ⟨rfl, hb⟩
  have HB3 := Lib.hid (further HB2.out hb)
  clear hb
  go_wp2_with fail
  go_ret
  exact ⟨rfl, HB3.out.1⟩

set_option maxHeartbeats 4000000 in
set_option maxRecDepth 100000 in
theorem grows_yes (g : Gm) (h : g.Ok) (w : World) : Calls Try.prog 5 #[g.v] w fun e w' => e = .returned (.bool true) ∧ Below w.heap.size w w' := by
  have HO := Lib.hid h
  have H10 := Lib.hid fun w => rgood_yes g h w
  have H11 := Lib.hid fun w => maps_yes g h w
  have H12 := Lib.hid fun w => total_yes g h w
  have H13 := Lib.hid fun w => cap_yes g h w
  obtain ⟨m0, m1, _⟩ := h.maps
  obtain ⟨a0, a1⟩ := h.area
  obtain ⟨p0, p1⟩ := h.cap
  obtain ⟨⟨h1, h2⟩, ⟨h3, h4⟩, ⟨h5, h6⟩, ⟨h7, h8⟩⟩ := h
  go_enter Try.func5, Try.ntmps5
  go_wp2_with fail
  refine (H10.out _).mono ?_
  rintro e w1 ⟨rfl, hb⟩
  have HB := Lib.hid (box_call hb)
  clear hb
  obtain ⟨c0, c1, c2, c3⟩ := HB.out.2.1
  have e0 := fun o => (HB.out.2.1.allocs HB.out.2.2 o).p
  have e1 := fun o => (HB.out.2.1.allocs HB.out.2.2 o).s
  have e2 := fun o => (HB.out.2.1.allocs HB.out.2.2 o).l
  have e3 := fun o => (HB.out.2.1.allocs HB.out.2.2 o).f
  have k0 := fun o o' => ((HB.out.2.1.allocs HB.out.2.2 o).allocs (by have := HB.out.2.2; simp; omega) o').p
  have k1 := fun o o' => ((HB.out.2.1.allocs HB.out.2.2 o).allocs (by have := HB.out.2.2; simp; omega) o').s
  have k2 := fun o o' => ((HB.out.2.1.allocs HB.out.2.2 o).allocs (by have := HB.out.2.2; simp; omega) o').l
  have k3 := fun o o' => ((HB.out.2.1.allocs HB.out.2.2 o).allocs (by have := HB.out.2.2; simp; omega) o').f
  go_upto_region 3 with fail
  go_cut [3, 4] from 5 (fun s3 s4 wx => ∃ b k : Nat, s3 = .pointer (some ⟨b, 0, none⟩) ∧ s4 = .pointer (some ⟨k, 0, none⟩) ∧ b ≠ k ∧ w.heap.size < b ∧ w.heap.size < k ∧ Below w.heap.size w wx ∧ GAt wx w.heap.size g ∧
    Blk wx b [.int .i64 g.p, .int .i64 g.s, .int .i64 g.l, .int .i64 g.f] ∧ Blk wx k [.int .i64 g.p, .int .i64 g.s, .int .i64 g.l, .int .i64 g.f])
  case first =>
    have HP := Lib.hid (grows_pair HB.out)
    go_region
    all_goals (go_wp2_with fail; go_meet)
    · exact ⟨_, _, rfl, rfl, by omega, HP.out.2.2.1, by have := HP.out.2.2.1; omega, HP.out.1, HP.out.2.1, HP.out.2.2.2.1, HP.out.2.2.2.2⟩
    · exact ⟨_, _, rfl, rfl, by omega, by have := HP.out.2.2.1; omega, HP.out.2.2.1, HP.out.1, HP.out.2.1, HP.out.2.2.2.2, HP.out.2.2.2.1⟩
  case rest =>
  clear c0 c1 c2 c3 e0 e1 e2 e3 k0 k1 k2 k3 HB
  obtain ⟨b, k, rfl, rfl, hne, hb, hk, hw, hg, hB, hK⟩ := hcut
  have HX : Hid (Below w.heap.size w ((wc.setCell ⟨b, 1, none⟩ (.int .i64 (g.s + 1))).setCell ⟨k, 0, none⟩ (.int .i64 (g.p + 1))) ∧ GAt ((wc.setCell ⟨b, 1, none⟩ (.int .i64 (g.s + 1))).setCell ⟨k, 0, none⟩ (.int .i64 (g.p + 1))) w.heap.size g ∧
      Blk ((wc.setCell ⟨b, 1, none⟩ (.int .i64 (g.s + 1))).setCell ⟨k, 0, none⟩ (.int .i64 (g.p + 1))) b [.int .i64 g.p, .int .i64 (g.s + 1), .int .i64 g.l, .int .i64 g.f] ∧ Blk ((wc.setCell ⟨b, 1, none⟩ (.int .i64 (g.s + 1))).setCell ⟨k, 0, none⟩ (.int .i64 (g.p + 1))) k [.int .i64 (g.p + 1), .int .i64 g.s, .int .i64 g.l, .int .i64 g.f]) := Lib.hid
    ⟨(hw.setCell (by dsimp only; omega) _).setCell (by dsimp only; omega) _, (hg.setOther (by dsimp only; omega) _).setOther (by dsimp only; omega) _, (hB.set 1 _).setOther (by dsimp only; omega) _, (hK.setOther (by dsimp only; omega) _).set 0 _⟩
  have d0 := hB.cell (i := 1) rfl
  have f0 := hB.frozen 1
  have d1 := hK.cell (i := 0) rfl
  have f1 := hK.frozen 0
  have hne' : k ≠ b := fun e => hne e.symm
  go_upto_region 6 with fail
  generalize (wc.setCell ⟨b, 1, none⟩ (.int .i64 (g.s + 1))).setCell ⟨k, 0, none⟩ (.int .i64 (g.p + 1)) = wz at HX ⊢
  clear d0 f0 d1 f1 hB hK hw hg
  have HL : Hid (w.heap.size < wz.heap.size) := Lib.hid (by have := HX.out.2.2.1.lt; omega)
  go_cut [50] from 25 (fun s50 wx => s50 = .bool false ∧ Below wz.heap.size wz wx)
  case first =>
   by_cases hs : g.s + 1 ≤ 16
   · have hO : g.more.Ok := ⟨⟨h1, h2⟩, ⟨by show 6 ≤ g.s + 1; omega, hs⟩, ⟨h5, h6⟩, ⟨h7, h8⟩⟩
     have HH10 := Lib.hid (show ∀ w, Calls Try.prog 10 #[.agg #[.int .i64 g.p, .int .i64 (g.s + 1), .int .i64 g.l, .int .i64 g.f]] w fun e w' => e = .returned (.bool true) ∧ Below w.heap.size w w' from rgood_yes g.more hO)
     have HH11 := Lib.hid (show ∀ w, Calls Try.prog 11 #[.agg #[.int .i64 g.p, .int .i64 (g.s + 1), .int .i64 g.l, .int .i64 g.f]] w fun e w' => e = .returned (.int .i64 g.maps) ∧ Below w.heap.size w w' from maps_yes g.more hO)
     have h12 := total_yes g.more hO
     rw [g.more_total] at h12
     have HH12 := Lib.hid (show ∀ w, Calls Try.prog 12 #[.agg #[.int .i64 g.p, .int .i64 (g.s + 1), .int .i64 g.l, .int .i64 g.f]] w fun e w' => e = .returned (.int .i64 (4 + g.s * g.l + g.l)) ∧ Below w.heap.size w w' from h12 )
     have h13 : ∃ hc : Int, g.cap ≤ hc ∧ ∀ w, Calls Try.prog 13 #[.agg #[.int .i64 g.p, .int .i64 (g.s + 1), .int .i64 g.l, .int .i64 g.f]] w fun e w' => e = .returned (.int .i64 hc) ∧ Below w.heap.size w w' := ⟨_, Gm.more_cap HO.out, cap_yes g.more hO⟩
     obtain ⟨hc, hle, h13⟩ := h13
     have HH13 := Lib.hid h13
     clear h12 h13 hO
     refine startH (fun wq => Below wz.heap.size wz wq) (by kernel_rfl) ?_
     refine takeH 0 (some 25) (.agg #[.int .i64 g.p, .int .i64 (g.s + 1), .int .i64 g.l, .int .i64 g.f]) rfl rfl (by kernel_rfl) (by kernel_rfl) (by kernel_rfl) (fun _ _ _ h => h) rfl (fun wq hS => by have B := HX.out.2.2.1.below hS HX.out.2.2.1.lt; have d0 := B.cell (i := 0) rfl; have d1 := B.cell (i := 1) rfl; have d2 := B.cell (i := 2) rfl; have d3 := B.cell (i := 3) rfl; go_simp) (Below.refl _ _).drew ?_
     try simp only [Act.put, List.setIfInBounds_toArray, List.set_cons_succ, List.set_cons_zero]
     refine oneH 1 (by kernel_rfl) rfl rfl fun K hK => ?_
     go_simp
     refine (HH10.out _).mono ?_
     rintro e wv1 ⟨rfl, hb⟩
     have HS1 := Lib.hid (stay (Below.refl _ _).drew hb)
     refine hK _ _ HS1.out ?_
     clear hK hb K
     try simp only [Act.put, List.setIfInBounds_toArray, List.set_cons_succ, List.set_cons_zero]
     refine takeH 2 (some 27) (.bool true) rfl rfl (by kernel_rfl) (by kernel_rfl) (by kernel_rfl) (fun _ _ _ h => h) rfl (fun w _ => by go_simp) HS1.out ?_
     try simp only [Act.put, List.setIfInBounds_toArray, List.set_cons_succ, List.set_cons_zero]
     refine takeH 3 (some 28) (.agg #[.int .i64 g.p, .int .i64 (g.s + 1), .int .i64 g.l, .int .i64 g.f]) rfl rfl (by kernel_rfl) (by kernel_rfl) (by kernel_rfl) (fun _ _ _ h => h) rfl (fun wq hS => by have B := HX.out.2.2.1.below hS HX.out.2.2.1.lt; have d0 := B.cell (i := 0) rfl; have d1 := B.cell (i := 1) rfl; have d2 := B.cell (i := 2) rfl; have d3 := B.cell (i := 3) rfl; go_simp) HS1.out ?_
     try simp only [Act.put, List.setIfInBounds_toArray, List.set_cons_succ, List.set_cons_zero]
     refine takeH 5 (some 30) (.agg #[.int .i64 g.p, .int .i64 g.s, .int .i64 g.l, .int .i64 g.f]) rfl rfl (by kernel_rfl) (by kernel_rfl) (by kernel_rfl) (fun _ _ _ h => h) rfl (fun wq hS => by obtain ⟨c0, c1, c2, c3⟩ := HX.out.2.1.below hS HL.out; go_simp) HS1.out ?_
     try simp only [Act.put, List.setIfInBounds_toArray, List.set_cons_succ, List.set_cons_zero]
     refine takeH 7 (some 32) (.pointer (some ⟨w.heap.size, 2, none⟩)) rfl rfl (by kernel_rfl) (by kernel_rfl) (by kernel_rfl) (fun _ _ _ h => h) rfl (fun w _ => by go_simp) HS1.out ?_
     try simp only [Act.put, List.setIfInBounds_toArray, List.set_cons_succ, List.set_cons_zero]
     refine takeH 8 (some 33) (.int .i64 g.l) rfl rfl (by kernel_rfl) (by kernel_rfl) (by kernel_rfl) (fun _ _ _ h => h) rfl (fun wq hS => by obtain ⟨c0, c1, c2, c3⟩ := HX.out.2.1.below hS HL.out; go_simp) HS1.out ?_
     try simp only [Act.put, List.setIfInBounds_toArray, List.set_cons_succ, List.set_cons_zero]
     refine oneH 4 (by kernel_rfl) rfl rfl fun K hK => ?_
     go_simp
     refine (HH12.out _).mono ?_
     rintro e wv2 ⟨rfl, hb⟩
     have HS2 := Lib.hid (stay HS1.out hb)
     refine hK _ _ HS2.out ?_
     clear hK hb K
     try simp only [Act.put, List.setIfInBounds_toArray, List.set_cons_succ, List.set_cons_zero]
     refine oneH 6 (by kernel_rfl) rfl rfl fun K hK => ?_
     go_simp
     refine (H12.out _).mono ?_
     rintro e wv3 ⟨rfl, hb⟩
     have HS3 := Lib.hid (stay HS2.out hb)
     refine hK _ _ HS3.out ?_
     clear hK hb K
     try simp only [Act.put, List.setIfInBounds_toArray, List.set_cons_succ, List.set_cons_zero]
     refine takeH 9 (some 34) (.int .i64 (4 + g.s * g.l + g.l)) rfl rfl (by kernel_rfl) (by kernel_rfl) (by kernel_rfl) (fun _ _ _ h => h) rfl (fun w _ => by go_simp <;> first | done | (go_ints; first | done | trivial)) HS3.out ?_
     try simp only [Act.put, List.setIfInBounds_toArray, List.set_cons_succ, List.set_cons_zero]
     refine takeH 10 (some 35) (.bool false) rfl rfl (by kernel_rfl) (by kernel_rfl) (by kernel_rfl) (fun _ _ _ h => h) rfl (fun w _ => by go_simp) HS3.out ?_
     try simp only [Act.put, List.setIfInBounds_toArray, List.set_cons_succ, List.set_cons_zero]
     refine takeH 11 (some 36) (.bool false) rfl rfl (by kernel_rfl) (by kernel_rfl) (by kernel_rfl) (fun _ _ _ h => h) rfl (fun w _ => by go_simp) HS3.out ?_
     try simp only [Act.put, List.setIfInBounds_toArray, List.set_cons_succ, List.set_cons_zero]
     refine takeH 12 (some 37) (.agg #[.int .i64 g.p, .int .i64 (g.s + 1), .int .i64 g.l, .int .i64 g.f]) rfl rfl (by kernel_rfl) (by kernel_rfl) (by kernel_rfl) (fun _ _ _ h => h) rfl (fun wq hS => by have B := HX.out.2.2.1.below hS HX.out.2.2.1.lt; have d0 := B.cell (i := 0) rfl; have d1 := B.cell (i := 1) rfl; have d2 := B.cell (i := 2) rfl; have d3 := B.cell (i := 3) rfl; go_simp) HS3.out ?_
     try simp only [Act.put, List.setIfInBounds_toArray, List.set_cons_succ, List.set_cons_zero]
     refine takeH 14 (some 39) (.agg #[.int .i64 g.p, .int .i64 g.s, .int .i64 g.l, .int .i64 g.f]) rfl rfl (by kernel_rfl) (by kernel_rfl) (by kernel_rfl) (fun _ _ _ h => h) rfl (fun wq hS => by obtain ⟨c0, c1, c2, c3⟩ := HX.out.2.1.below hS HL.out; go_simp) HS3.out ?_
     try simp only [Act.put, List.setIfInBounds_toArray, List.set_cons_succ, List.set_cons_zero]
     refine oneH 13 (by kernel_rfl) rfl rfl fun K hK => ?_
     go_simp
     refine (HH13.out _).mono ?_
     rintro e wv4 ⟨rfl, hb⟩
     have HS4 := Lib.hid (stay HS3.out hb)
     refine hK _ _ HS4.out ?_
     clear hK hb K
     try simp only [Act.put, List.setIfInBounds_toArray, List.set_cons_succ, List.set_cons_zero]
     refine oneH 15 (by kernel_rfl) rfl rfl fun K hK => ?_
     go_simp
     refine (H13.out _).mono ?_
     rintro e wv5 ⟨rfl, hb⟩
     have HS5 := Lib.hid (stay HS4.out hb)
     refine hK _ _ HS5.out ?_
     clear hK hb K
     try simp only [Act.put, List.setIfInBounds_toArray, List.set_cons_succ, List.set_cons_zero]
     refine takeH 16 (some 41) (.bool false) rfl rfl (by kernel_rfl) (by kernel_rfl) (by kernel_rfl) (fun _ _ _ h => h) rfl (fun w _ => by first | (go_simp; done) | (go_simp; omega)) HS5.out ?_
     try simp only [Act.put, List.setIfInBounds_toArray, List.set_cons_succ, List.set_cons_zero]
     refine takeH 17 (some 42) (.bool false) rfl rfl (by kernel_rfl) (by kernel_rfl) (by kernel_rfl) (fun _ _ _ h => h) rfl (fun w _ => by go_simp) HS5.out ?_
     try simp only [Act.put, List.setIfInBounds_toArray, List.set_cons_succ, List.set_cons_zero]
     refine takeH 18 (some 43) (.bool false) rfl rfl (by kernel_rfl) (by kernel_rfl) (by kernel_rfl) (fun _ _ _ h => h) rfl (fun w _ => by go_simp) HS5.out ?_
     try simp only [Act.put, List.setIfInBounds_toArray, List.set_cons_succ, List.set_cons_zero]
     refine takeH 19 (some 44) (.agg #[.int .i64 g.p, .int .i64 (g.s + 1), .int .i64 g.l, .int .i64 g.f]) rfl rfl (by kernel_rfl) (by kernel_rfl) (by kernel_rfl) (fun _ _ _ h => h) rfl (fun wq hS => by have B := HX.out.2.2.1.below hS HX.out.2.2.1.lt; have d0 := B.cell (i := 0) rfl; have d1 := B.cell (i := 1) rfl; have d2 := B.cell (i := 2) rfl; have d3 := B.cell (i := 3) rfl; go_simp) HS5.out ?_
     try simp only [Act.put, List.setIfInBounds_toArray, List.set_cons_succ, List.set_cons_zero]
     refine takeH 21 (some 46) (.agg #[.int .i64 g.p, .int .i64 g.s, .int .i64 g.l, .int .i64 g.f]) rfl rfl (by kernel_rfl) (by kernel_rfl) (by kernel_rfl) (fun _ _ _ h => h) rfl (fun wq hS => by obtain ⟨c0, c1, c2, c3⟩ := HX.out.2.1.below hS HL.out; go_simp) HS5.out ?_
     try simp only [Act.put, List.setIfInBounds_toArray, List.set_cons_succ, List.set_cons_zero]
     refine oneH 20 (by kernel_rfl) rfl rfl fun K hK => ?_
     go_simp
     refine (HH11.out _).mono ?_
     rintro e wv6 ⟨rfl, hb⟩
     have HS6 := Lib.hid (stay HS5.out hb)
     refine hK _ _ HS6.out ?_
     clear hK hb K
     try simp only [Act.put, List.setIfInBounds_toArray, List.set_cons_succ, List.set_cons_zero]
     refine oneH 22 (by kernel_rfl) rfl rfl fun K hK => ?_
     go_simp
     refine (H11.out _).mono ?_
     rintro e wv7 ⟨rfl, hb⟩
     have HS7 := Lib.hid (stay HS6.out hb)
     refine hK _ _ HS7.out ?_
     clear hK hb K
     try simp only [Act.put, List.setIfInBounds_toArray, List.set_cons_succ, List.set_cons_zero]
     refine takeH 23 (some 48) (.bool false) rfl rfl (by kernel_rfl) (by kernel_rfl) (by kernel_rfl) (fun _ _ _ h => h) rfl (fun w _ => by go_simp) HS7.out ?_
     try simp only [Act.put, List.setIfInBounds_toArray, List.set_cons_succ, List.set_cons_zero]
     refine takeH 24 (some 49) (.bool false) rfl rfl (by kernel_rfl) (by kernel_rfl) (by kernel_rfl) (fun _ _ _ h => h) rfl (fun w _ => by go_simp) HS7.out ?_
     try simp only [Act.put, List.setIfInBounds_toArray, List.set_cons_succ, List.set_cons_zero]
     refine takeH 25 (some 50) (.bool false) rfl rfl (by kernel_rfl) (by kernel_rfl) (by kernel_rfl) (fun _ _ _ h => h) rfl (fun w _ => by go_simp) HS7.out ?_
     try simp only [Act.put, List.setIfInBounds_toArray, List.set_cons_succ, List.set_cons_zero]
     refine wpAnyH_done (by kernel_rfl) ?_ _
     go_wp2_with fail
     go_meet
     exact ⟨rfl, HS7.out⟩
   · have hO : ¬ g.more.Ok := fun o => hs o.2.1.2
     have HH10 := Lib.hid (show ∀ w, Calls Try.prog 10 #[.agg #[.int .i64 g.p, .int .i64 (g.s + 1), .int .i64 g.l, .int .i64 g.f]] w fun e w' => e = .returned (.bool false) ∧ Below w.heap.size w w' from rgood_no g.more hO)
     clear hO
     refine startH (fun wq => Below wz.heap.size wz wq) (by kernel_rfl) ?_
     refine takeH 0 (some 25) (.agg #[.int .i64 g.p, .int .i64 (g.s + 1), .int .i64 g.l, .int .i64 g.f]) rfl rfl (by kernel_rfl) (by kernel_rfl) (by kernel_rfl) (fun _ _ _ h => h) rfl (fun wq hS => by have B := HX.out.2.2.1.below hS HX.out.2.2.1.lt; have d0 := B.cell (i := 0) rfl; have d1 := B.cell (i := 1) rfl; have d2 := B.cell (i := 2) rfl; have d3 := B.cell (i := 3) rfl; go_simp) (Below.refl _ _).drew ?_
     try simp only [Act.put, List.setIfInBounds_toArray, List.set_cons_succ, List.set_cons_zero]
     refine oneH 1 (by kernel_rfl) rfl rfl fun K hK => ?_
     go_simp
     refine (HH10.out _).mono ?_
     rintro e wv1 ⟨rfl, hb⟩
     have HS1 := Lib.hid (stay (Below.refl _ _).drew hb)
     refine hK _ _ HS1.out ?_
     clear hK hb K
     try simp only [Act.put, List.setIfInBounds_toArray, List.set_cons_succ, List.set_cons_zero]
     refine takeH 2 (some 27) (.bool false) rfl rfl (by kernel_rfl) (by kernel_rfl) (by kernel_rfl) (fun _ _ _ h => h) rfl (fun w _ => by go_simp) HS1.out ?_
     try simp only [Act.put, List.setIfInBounds_toArray, List.set_cons_succ, List.set_cons_zero]
     refine passH 3 (some 28) rfl rfl (by kernel_rfl) (by kernel_rfl) (by kernel_rfl) (fun _ _ _ h => h) rfl HS1.out ?_
     try simp only [Act.put, List.setIfInBounds_toArray, List.set_cons_succ, List.set_cons_zero]
     refine passH 4 (some 29) rfl rfl (by kernel_rfl) (by kernel_rfl) (by kernel_rfl) (fun _ _ _ h => h) rfl HS1.out ?_
     try simp only [Act.put, List.setIfInBounds_toArray, List.set_cons_succ, List.set_cons_zero]
     refine passH 5 (some 30) rfl rfl (by kernel_rfl) (by kernel_rfl) (by kernel_rfl) (fun _ _ _ h => h) rfl HS1.out ?_
     try simp only [Act.put, List.setIfInBounds_toArray, List.set_cons_succ, List.set_cons_zero]
     refine passH 6 (some 31) rfl rfl (by kernel_rfl) (by kernel_rfl) (by kernel_rfl) (fun _ _ _ h => h) rfl HS1.out ?_
     try simp only [Act.put, List.setIfInBounds_toArray, List.set_cons_succ, List.set_cons_zero]
     refine passH 7 (some 32) rfl rfl (by kernel_rfl) (by kernel_rfl) (by kernel_rfl) (fun _ _ _ h => h) rfl HS1.out ?_
     try simp only [Act.put, List.setIfInBounds_toArray, List.set_cons_succ, List.set_cons_zero]
     refine passH 8 (some 33) rfl rfl (by kernel_rfl) (by kernel_rfl) (by kernel_rfl) (fun _ _ _ h => h) rfl HS1.out ?_
     try simp only [Act.put, List.setIfInBounds_toArray, List.set_cons_succ, List.set_cons_zero]
     refine passH 9 (some 34) rfl rfl (by kernel_rfl) (by kernel_rfl) (by kernel_rfl) (fun _ _ _ h => h) rfl HS1.out ?_
     try simp only [Act.put, List.setIfInBounds_toArray, List.set_cons_succ, List.set_cons_zero]
     refine passH 10 (some 35) rfl rfl (by kernel_rfl) (by kernel_rfl) (by kernel_rfl) (fun _ _ _ h => h) rfl HS1.out ?_
     try simp only [Act.put, List.setIfInBounds_toArray, List.set_cons_succ, List.set_cons_zero]
     refine passH 11 (some 36) rfl rfl (by kernel_rfl) (by kernel_rfl) (by kernel_rfl) (fun _ _ _ h => h) rfl HS1.out ?_
     try simp only [Act.put, List.setIfInBounds_toArray, List.set_cons_succ, List.set_cons_zero]
     refine passH 12 (some 37) rfl rfl (by kernel_rfl) (by kernel_rfl) (by kernel_rfl) (fun _ _ _ h => h) rfl HS1.out ?_
     try simp only [Act.put, List.setIfInBounds_toArray, List.set_cons_succ, List.set_cons_zero]
     refine passH 13 (some 38) rfl rfl (by kernel_rfl) (by kernel_rfl) (by kernel_rfl) (fun _ _ _ h => h) rfl HS1.out ?_
     try simp only [Act.put, List.setIfInBounds_toArray, List.set_cons_succ, List.set_cons_zero]
     refine passH 14 (some 39) rfl rfl (by kernel_rfl) (by kernel_rfl) (by kernel_rfl) (fun _ _ _ h => h) rfl HS1.out ?_
     try simp only [Act.put, List.setIfInBounds_toArray, List.set_cons_succ, List.set_cons_zero]
     refine passH 15 (some 40) rfl rfl (by kernel_rfl) (by kernel_rfl) (by kernel_rfl) (fun _ _ _ h => h) rfl HS1.out ?_
     try simp only [Act.put, List.setIfInBounds_toArray, List.set_cons_succ, List.set_cons_zero]
     refine passH 16 (some 41) rfl rfl (by kernel_rfl) (by kernel_rfl) (by kernel_rfl) (fun _ _ _ h => h) rfl HS1.out ?_
     try simp only [Act.put, List.setIfInBounds_toArray, List.set_cons_succ, List.set_cons_zero]
     refine passH 17 (some 42) rfl rfl (by kernel_rfl) (by kernel_rfl) (by kernel_rfl) (fun _ _ _ h => h) rfl HS1.out ?_
     try simp only [Act.put, List.setIfInBounds_toArray, List.set_cons_succ, List.set_cons_zero]
     refine passH 18 (some 43) rfl rfl (by kernel_rfl) (by kernel_rfl) (by kernel_rfl) (fun _ _ _ h => h) rfl HS1.out ?_
     try simp only [Act.put, List.setIfInBounds_toArray, List.set_cons_succ, List.set_cons_zero]
     refine passH 19 (some 44) rfl rfl (by kernel_rfl) (by kernel_rfl) (by kernel_rfl) (fun _ _ _ h => h) rfl HS1.out ?_
     try simp only [Act.put, List.setIfInBounds_toArray, List.set_cons_succ, List.set_cons_zero]
     refine passH 20 (some 45) rfl rfl (by kernel_rfl) (by kernel_rfl) (by kernel_rfl) (fun _ _ _ h => h) rfl HS1.out ?_
     try simp only [Act.put, List.setIfInBounds_toArray, List.set_cons_succ, List.set_cons_zero]
     refine passH 21 (some 46) rfl rfl (by kernel_rfl) (by kernel_rfl) (by kernel_rfl) (fun _ _ _ h => h) rfl HS1.out ?_
     try simp only [Act.put, List.setIfInBounds_toArray, List.set_cons_succ, List.set_cons_zero]
     refine passH 22 (some 47) rfl rfl (by kernel_rfl) (by kernel_rfl) (by kernel_rfl) (fun _ _ _ h => h) rfl HS1.out ?_
     try simp only [Act.put, List.setIfInBounds_toArray, List.set_cons_succ, List.set_cons_zero]
     refine passH 23 (some 48) rfl rfl (by kernel_rfl) (by kernel_rfl) (by kernel_rfl) (fun _ _ _ h => h) rfl HS1.out ?_
     try simp only [Act.put, List.setIfInBounds_toArray, List.set_cons_succ, List.set_cons_zero]
     refine passH 24 (some 49) rfl rfl (by kernel_rfl) (by kernel_rfl) (by kernel_rfl) (fun _ _ _ h => h) rfl HS1.out ?_
     try simp only [Act.put, List.setIfInBounds_toArray, List.set_cons_succ, List.set_cons_zero]
     refine takeH 25 (some 50) (.bool false) rfl rfl (by kernel_rfl) (by kernel_rfl) (by kernel_rfl) (fun _ _ _ h => h) rfl (fun w _ => by go_simp) HS1.out ?_
     try simp only [Act.put, List.setIfInBounds_toArray, List.set_cons_succ, List.set_cons_zero]
     refine wpAnyH_done (by kernel_rfl) ?_ _
     go_wp2_with fail
     go_meet
     exact ⟨rfl, HS1.out⟩
  case rest =>
  obtain ⟨rfl, hcut⟩ := hcut
  have HS := Lib.hid hcut
  clear hcut
  have d0 := (HX.out.2.2.2.below HS.out HX.out.2.2.2.lt).cell (i := 0) rfl
  have d1 := (HX.out.2.2.2.below HS.out HX.out.2.2.2.lt).cell (i := 1) rfl
  have d2 := (HX.out.2.2.2.below HS.out HX.out.2.2.2.lt).cell (i := 2) rfl
  have d3 := (HX.out.2.2.2.below HS.out HX.out.2.2.2.lt).cell (i := 3) rfl
  by_cases hp : g.p + 1 ≤ 64
  · have hO : g.next.Ok := ⟨⟨by show 1 ≤ g.p + 1; omega, hp⟩, ⟨h3, h4⟩, ⟨h5, h6⟩, ⟨h7, h8⟩⟩
    have HK10 := Lib.hid (show ∀ w, Calls Try.prog 10 #[.agg #[.int .i64 (g.p + 1), .int .i64 g.s, .int .i64 g.l, .int .i64 g.f]] w fun e w' => e = .returned (.bool true) ∧ Below w.heap.size w w' from rgood_yes g.next hO)
    have HK12 := Lib.hid (show ∀ w, Calls Try.prog 12 #[.agg #[.int .i64 (g.p + 1), .int .i64 g.s, .int .i64 g.l, .int .i64 g.f]] w fun e w' => e = .returned (.int .i64 (4 + g.s * g.l)) ∧ Below w.heap.size w w' from total_yes g.next hO)
    have h13 : ∃ kc : Int, kc ≤ g.cap + 1 ∧ ∀ w, Calls Try.prog 13 #[.agg #[.int .i64 (g.p + 1), .int .i64 g.s, .int .i64 g.l, .int .i64 g.f]] w fun e w' => e = .returned (.int .i64 kc) ∧ Below w.heap.size w w' := ⟨_, Gm.next_cap HO.out hO, cap_yes g.next hO⟩
    obtain ⟨kc, hle, h13⟩ := h13
    have HK13 := Lib.hid h13
    have h11 := maps_yes g.next hO
    obtain ⟨n0, n1⟩ := Gm.next_maps HO.out hO
    go_wp2_with fail
    refine (HK10.out _).mono ?_
    rintro e wt ⟨rfl, hb⟩
    have HT := Lib.hid (stay HS.out hb)
    clear hb d0 d1 d2 d3
    obtain ⟨c0, c1, c2, c3⟩ := HX.out.2.1.below HT.out HL.out
    by_cases hm : g.p % 8 = 0
    · rw [n0 hm] at h11
      have HK11 := Lib.hid (show ∀ w, Calls Try.prog 11 #[.agg #[.int .i64 (g.p + 1), .int .i64 g.s, .int .i64 g.l, .int .i64 g.f]] w fun e w' => e = .returned (.int .i64 (g.maps + 1)) ∧ Below w.heap.size w w' from h11 )
      clear h11 n0 n1 hO h13
      go_wp2_with fail
      refine startH (fun wq => Below wt.heap.size wt wq) (by kernel_rfl) ?_
      refine takeH 0 (some 59) (.agg #[.int .i64 (g.p + 1), .int .i64 g.s, .int .i64 g.l, .int .i64 g.f]) rfl rfl (by kernel_rfl) (by kernel_rfl) (by kernel_rfl) (fun _ _ _ h => h) rfl (fun wq hS => by have B := HX.out.2.2.2.below (HT.out.trans (hS.mono HT.out.size)) HX.out.2.2.2.lt; have d0 := B.cell (i := 0) rfl; have d1 := B.cell (i := 1) rfl; have d2 := B.cell (i := 2) rfl; have d3 := B.cell (i := 3) rfl; go_simp) (Below.refl _ _).drew ?_
      try simp only [Act.put, List.setIfInBounds_toArray, List.set_cons_succ, List.set_cons_zero]
      refine takeH 2 (some 61) (.agg #[.int .i64 g.p, .int .i64 g.s, .int .i64 g.l, .int .i64 g.f]) rfl rfl (by kernel_rfl) (by kernel_rfl) (by kernel_rfl) (fun _ _ _ h => h) rfl (fun wq hS => by obtain ⟨c0, c1, c2, c3⟩ := HX.out.2.1.below (HT.out.trans (hS.mono HT.out.size)) HL.out; go_simp) (Below.refl _ _).drew ?_
      try simp only [Act.put, List.setIfInBounds_toArray, List.set_cons_succ, List.set_cons_zero]
      refine takeH 4 (some 63) (.int .i64 1) rfl rfl (by kernel_rfl) (by kernel_rfl) (by kernel_rfl) (fun _ _ _ h => h) rfl (fun w _ => by go_simp) (Below.refl _ _).drew ?_
      try simp only [Act.put, List.setIfInBounds_toArray, List.set_cons_succ, List.set_cons_zero]
      refine oneH 1 (by kernel_rfl) rfl rfl fun K hK => ?_
      go_simp
      refine (HK11.out _).mono ?_
      rintro e wv1 ⟨rfl, hb⟩
      have HS1 := Lib.hid (stay (Below.refl _ _).drew hb)
      refine hK _ _ HS1.out ?_
      clear hK hb K
      try simp only [Act.put, List.setIfInBounds_toArray, List.set_cons_succ, List.set_cons_zero]
      refine oneH 3 (by kernel_rfl) rfl rfl fun K hK => ?_
      go_simp
      refine (H11.out _).mono ?_
      rintro e wv2 ⟨rfl, hb⟩
      have HS2 := Lib.hid (stay HS1.out hb)
      refine hK _ _ HS2.out ?_
      clear hK hb K
      try simp only [Act.put, List.setIfInBounds_toArray, List.set_cons_succ, List.set_cons_zero]
      refine takeH 5 (some 64) (.int .i64 (g.maps + 1)) rfl rfl (by kernel_rfl) (by kernel_rfl) (by kernel_rfl) (fun _ _ _ h => h) rfl (fun w _ => by go_simp <;> first | done | (go_ints; first | done | trivial)) HS2.out ?_
      try simp only [Act.put, List.setIfInBounds_toArray, List.set_cons_succ, List.set_cons_zero]
      refine takeH 6 (some 65) (.bool true) rfl rfl (by kernel_rfl) (by kernel_rfl) (by kernel_rfl) (fun _ _ _ h => h) rfl (fun w _ => by go_simp) HS2.out ?_
      try simp only [Act.put, List.setIfInBounds_toArray, List.set_cons_succ, List.set_cons_zero]
      refine takeH 7 (some 66) (.bool true) rfl rfl (by kernel_rfl) (by kernel_rfl) (by kernel_rfl) (fun _ _ _ h => h) rfl (fun w _ => by go_simp) HS2.out ?_
      try simp only [Act.put, List.setIfInBounds_toArray, List.set_cons_succ, List.set_cons_zero]
      refine takeH 8 (some 67) (.agg #[.int .i64 (g.p + 1), .int .i64 g.s, .int .i64 g.l, .int .i64 g.f]) rfl rfl (by kernel_rfl) (by kernel_rfl) (by kernel_rfl) (fun _ _ _ h => h) rfl (fun wq hS => by have B := HX.out.2.2.2.below (HT.out.trans (hS.mono HT.out.size)) HX.out.2.2.2.lt; have d0 := B.cell (i := 0) rfl; have d1 := B.cell (i := 1) rfl; have d2 := B.cell (i := 2) rfl; have d3 := B.cell (i := 3) rfl; go_simp) HS2.out ?_
      try simp only [Act.put, List.setIfInBounds_toArray, List.set_cons_succ, List.set_cons_zero]
      refine takeH 10 (some 69) (.agg #[.int .i64 g.p, .int .i64 g.s, .int .i64 g.l, .int .i64 g.f]) rfl rfl (by kernel_rfl) (by kernel_rfl) (by kernel_rfl) (fun _ _ _ h => h) rfl (fun wq hS => by obtain ⟨c0, c1, c2, c3⟩ := HX.out.2.1.below (HT.out.trans (hS.mono HT.out.size)) HL.out; go_simp) HS2.out ?_
      try simp only [Act.put, List.setIfInBounds_toArray, List.set_cons_succ, List.set_cons_zero]
      refine oneH 9 (by kernel_rfl) rfl rfl fun K hK => ?_
      go_simp
      refine (HK12.out _).mono ?_
      rintro e wv3 ⟨rfl, hb⟩
      have HS3 := Lib.hid (stay HS2.out hb)
      refine hK _ _ HS3.out ?_
      clear hK hb K
      try simp only [Act.put, List.setIfInBounds_toArray, List.set_cons_succ, List.set_cons_zero]
      refine oneH 11 (by kernel_rfl) rfl rfl fun K hK => ?_
      go_simp
      refine (H12.out _).mono ?_
      rintro e wv4 ⟨rfl, hb⟩
      have HS4 := Lib.hid (stay HS3.out hb)
      refine hK _ _ HS4.out ?_
      clear hK hb K
      try simp only [Act.put, List.setIfInBounds_toArray, List.set_cons_succ, List.set_cons_zero]
      refine takeH 12 (some 71) (.bool true) rfl rfl (by kernel_rfl) (by kernel_rfl) (by kernel_rfl) (fun _ _ _ h => h) rfl (fun w _ => by go_simp) HS4.out ?_
      try simp only [Act.put, List.setIfInBounds_toArray, List.set_cons_succ, List.set_cons_zero]
      refine takeH 13 (some 72) (.bool true) rfl rfl (by kernel_rfl) (by kernel_rfl) (by kernel_rfl) (fun _ _ _ h => h) rfl (fun w _ => by go_simp) HS4.out ?_
      try simp only [Act.put, List.setIfInBounds_toArray, List.set_cons_succ, List.set_cons_zero]
      refine takeH 14 (some 73) (.bool true) rfl rfl (by kernel_rfl) (by kernel_rfl) (by kernel_rfl) (fun _ _ _ h => h) rfl (fun w _ => by go_simp) HS4.out ?_
      try simp only [Act.put, List.setIfInBounds_toArray, List.set_cons_succ, List.set_cons_zero]
      refine takeH 15 (some 74) (.agg #[.int .i64 (g.p + 1), .int .i64 g.s, .int .i64 g.l, .int .i64 g.f]) rfl rfl (by kernel_rfl) (by kernel_rfl) (by kernel_rfl) (fun _ _ _ h => h) rfl (fun wq hS => by have B := HX.out.2.2.2.below (HT.out.trans (hS.mono HT.out.size)) HX.out.2.2.2.lt; have d0 := B.cell (i := 0) rfl; have d1 := B.cell (i := 1) rfl; have d2 := B.cell (i := 2) rfl; have d3 := B.cell (i := 3) rfl; go_simp) HS4.out ?_
      try simp only [Act.put, List.setIfInBounds_toArray, List.set_cons_succ, List.set_cons_zero]
      refine takeH 17 (some 76) (.agg #[.int .i64 g.p, .int .i64 g.s, .int .i64 g.l, .int .i64 g.f]) rfl rfl (by kernel_rfl) (by kernel_rfl) (by kernel_rfl) (fun _ _ _ h => h) rfl (fun wq hS => by obtain ⟨c0, c1, c2, c3⟩ := HX.out.2.1.below (HT.out.trans (hS.mono HT.out.size)) HL.out; go_simp) HS4.out ?_
      try simp only [Act.put, List.setIfInBounds_toArray, List.set_cons_succ, List.set_cons_zero]
      refine oneH 16 (by kernel_rfl) rfl rfl fun K hK => ?_
      go_simp
      refine (HK13.out _).mono ?_
      rintro e wv5 ⟨rfl, hb⟩
      have HS5 := Lib.hid (stay HS4.out hb)
      refine hK _ _ HS5.out ?_
      clear hK hb K
      try simp only [Act.put, List.setIfInBounds_toArray, List.set_cons_succ, List.set_cons_zero]
      refine oneH 18 (by kernel_rfl) rfl rfl fun K hK => ?_
      go_simp
      refine (H13.out _).mono ?_
      rintro e wv6 ⟨rfl, hb⟩
      have HS6 := Lib.hid (stay HS5.out hb)
      refine hK _ _ HS6.out ?_
      clear hK hb K
      try simp only [Act.put, List.setIfInBounds_toArray, List.set_cons_succ, List.set_cons_zero]
      refine takeH 19 (some 78) (.int .i64 (g.cap + 1)) rfl rfl (by kernel_rfl) (by kernel_rfl) (by kernel_rfl) (fun _ _ _ h => h) rfl (fun w _ => by go_simp <;> first | done | (go_ints; first | done | trivial)) HS6.out ?_
      try simp only [Act.put, List.setIfInBounds_toArray, List.set_cons_succ, List.set_cons_zero]
      refine takeH 20 (some 79) (.bool true) rfl rfl (by kernel_rfl) (by kernel_rfl) (by kernel_rfl) (fun _ _ _ h => h) rfl (fun w _ => by first | (go_simp; done) | (go_simp; omega)) HS6.out ?_
      try simp only [Act.put, List.setIfInBounds_toArray, List.set_cons_succ, List.set_cons_zero]
      refine takeH 21 (some 80) (.bool true) rfl rfl (by kernel_rfl) (by kernel_rfl) (by kernel_rfl) (fun _ _ _ h => h) rfl (fun w _ => by go_simp) HS6.out ?_
      try simp only [Act.put, List.setIfInBounds_toArray, List.set_cons_succ, List.set_cons_zero]
      refine takeH 22 (some 81) (.bool true) rfl rfl (by kernel_rfl) (by kernel_rfl) (by kernel_rfl) (fun _ _ _ h => h) rfl (fun w _ => by go_simp) HS6.out ?_
      try simp only [Act.put, List.setIfInBounds_toArray, List.set_cons_succ, List.set_cons_zero]
      refine oneH 23 (by kernel_rfl) rfl rfl fun K hK => ?_
      go_simp
      refine (wakes_any _).mono ?_
      rintro e wv7 ⟨rfl, hb⟩
      have HS7 := Lib.hid (stay HS6.out hb)
      refine hK _ _ HS7.out ?_
      clear hK hb K
      try simp only [Act.put, List.setIfInBounds_toArray, List.set_cons_succ, List.set_cons_zero]
      refine takeH 24 (some 83) (.bool true) rfl rfl (by kernel_rfl) (by kernel_rfl) (by kernel_rfl) (fun _ _ _ h => h) rfl (fun w _ => by go_simp) HS7.out ?_
      try simp only [Act.put, List.setIfInBounds_toArray, List.set_cons_succ, List.set_cons_zero]
      refine takeH 25 (some 2) (.bool true) rfl rfl (by kernel_rfl) (by kernel_rfl) (by kernel_rfl) (fun _ _ _ h => h) rfl (fun w _ => by go_simp) HS7.out ?_
      try simp only [Act.put, List.setIfInBounds_toArray, List.set_cons_succ, List.set_cons_zero]
      refine wpAnyH_done (by kernel_rfl) ?_ _
      go_wp2_with fail
      go_ret
      exact ⟨rfl, (HX.out.1.trans (HT.out.mono HX.out.1.size)).trans (HS7.out.mono (Nat.le_trans HX.out.1.size HT.out.size))⟩
    · rw [n1 hm] at h11
      have HK11 := Lib.hid (show ∀ w, Calls Try.prog 11 #[.agg #[.int .i64 (g.p + 1), .int .i64 g.s, .int .i64 g.l, .int .i64 g.f]] w fun e w' => e = .returned (.int .i64 g.maps) ∧ Below w.heap.size w w' from h11 )
      clear h11 n0 n1 hO h13
      go_wp2_with fail
      refine startH (fun wq => Below wt.heap.size wt wq) (by kernel_rfl) ?_
      refine takeH 0 (some 59) (.agg #[.int .i64 (g.p + 1), .int .i64 g.s, .int .i64 g.l, .int .i64 g.f]) rfl rfl (by kernel_rfl) (by kernel_rfl) (by kernel_rfl) (fun _ _ _ h => h) rfl (fun wq hS => by have B := HX.out.2.2.2.below (HT.out.trans (hS.mono HT.out.size)) HX.out.2.2.2.lt; have d0 := B.cell (i := 0) rfl; have d1 := B.cell (i := 1) rfl; have d2 := B.cell (i := 2) rfl; have d3 := B.cell (i := 3) rfl; go_simp) (Below.refl _ _).drew ?_
      try simp only [Act.put, List.setIfInBounds_toArray, List.set_cons_succ, List.set_cons_zero]
      refine takeH 2 (some 61) (.agg #[.int .i64 g.p, .int .i64 g.s, .int .i64 g.l, .int .i64 g.f]) rfl rfl (by kernel_rfl) (by kernel_rfl) (by kernel_rfl) (fun _ _ _ h => h) rfl (fun wq hS => by obtain ⟨c0, c1, c2, c3⟩ := HX.out.2.1.below (HT.out.trans (hS.mono HT.out.size)) HL.out; go_simp) (Below.refl _ _).drew ?_
      try simp only [Act.put, List.setIfInBounds_toArray, List.set_cons_succ, List.set_cons_zero]
      refine takeH 4 (some 63) (.int .i64 0) rfl rfl (by kernel_rfl) (by kernel_rfl) (by kernel_rfl) (fun _ _ _ h => h) rfl (fun w _ => by go_simp) (Below.refl _ _).drew ?_
      try simp only [Act.put, List.setIfInBounds_toArray, List.set_cons_succ, List.set_cons_zero]
      refine oneH 1 (by kernel_rfl) rfl rfl fun K hK => ?_
      go_simp
      refine (HK11.out _).mono ?_
      rintro e wv1 ⟨rfl, hb⟩
      have HS1 := Lib.hid (stay (Below.refl _ _).drew hb)
      refine hK _ _ HS1.out ?_
      clear hK hb K
      try simp only [Act.put, List.setIfInBounds_toArray, List.set_cons_succ, List.set_cons_zero]
      refine oneH 3 (by kernel_rfl) rfl rfl fun K hK => ?_
      go_simp
      refine (H11.out _).mono ?_
      rintro e wv2 ⟨rfl, hb⟩
      have HS2 := Lib.hid (stay HS1.out hb)
      refine hK _ _ HS2.out ?_
      clear hK hb K
      try simp only [Act.put, List.setIfInBounds_toArray, List.set_cons_succ, List.set_cons_zero]
      refine takeH 5 (some 64) (.int .i64 g.maps) rfl rfl (by kernel_rfl) (by kernel_rfl) (by kernel_rfl) (fun _ _ _ h => h) rfl (fun w _ => by go_simp <;> first | done | (go_ints; first | done | trivial)) HS2.out ?_
      try simp only [Act.put, List.setIfInBounds_toArray, List.set_cons_succ, List.set_cons_zero]
      refine takeH 6 (some 65) (.bool true) rfl rfl (by kernel_rfl) (by kernel_rfl) (by kernel_rfl) (fun _ _ _ h => h) rfl (fun w _ => by go_simp) HS2.out ?_
      try simp only [Act.put, List.setIfInBounds_toArray, List.set_cons_succ, List.set_cons_zero]
      refine takeH 7 (some 66) (.bool true) rfl rfl (by kernel_rfl) (by kernel_rfl) (by kernel_rfl) (fun _ _ _ h => h) rfl (fun w _ => by go_simp) HS2.out ?_
      try simp only [Act.put, List.setIfInBounds_toArray, List.set_cons_succ, List.set_cons_zero]
      refine takeH 8 (some 67) (.agg #[.int .i64 (g.p + 1), .int .i64 g.s, .int .i64 g.l, .int .i64 g.f]) rfl rfl (by kernel_rfl) (by kernel_rfl) (by kernel_rfl) (fun _ _ _ h => h) rfl (fun wq hS => by have B := HX.out.2.2.2.below (HT.out.trans (hS.mono HT.out.size)) HX.out.2.2.2.lt; have d0 := B.cell (i := 0) rfl; have d1 := B.cell (i := 1) rfl; have d2 := B.cell (i := 2) rfl; have d3 := B.cell (i := 3) rfl; go_simp) HS2.out ?_
      try simp only [Act.put, List.setIfInBounds_toArray, List.set_cons_succ, List.set_cons_zero]
      refine takeH 10 (some 69) (.agg #[.int .i64 g.p, .int .i64 g.s, .int .i64 g.l, .int .i64 g.f]) rfl rfl (by kernel_rfl) (by kernel_rfl) (by kernel_rfl) (fun _ _ _ h => h) rfl (fun wq hS => by obtain ⟨c0, c1, c2, c3⟩ := HX.out.2.1.below (HT.out.trans (hS.mono HT.out.size)) HL.out; go_simp) HS2.out ?_
      try simp only [Act.put, List.setIfInBounds_toArray, List.set_cons_succ, List.set_cons_zero]
      refine oneH 9 (by kernel_rfl) rfl rfl fun K hK => ?_
      go_simp
      refine (HK12.out _).mono ?_
      rintro e wv3 ⟨rfl, hb⟩
      have HS3 := Lib.hid (stay HS2.out hb)
      refine hK _ _ HS3.out ?_
      clear hK hb K
      try simp only [Act.put, List.setIfInBounds_toArray, List.set_cons_succ, List.set_cons_zero]
      refine oneH 11 (by kernel_rfl) rfl rfl fun K hK => ?_
      go_simp
      refine (H12.out _).mono ?_
      rintro e wv4 ⟨rfl, hb⟩
      have HS4 := Lib.hid (stay HS3.out hb)
      refine hK _ _ HS4.out ?_
      clear hK hb K
      try simp only [Act.put, List.setIfInBounds_toArray, List.set_cons_succ, List.set_cons_zero]
      refine takeH 12 (some 71) (.bool true) rfl rfl (by kernel_rfl) (by kernel_rfl) (by kernel_rfl) (fun _ _ _ h => h) rfl (fun w _ => by go_simp) HS4.out ?_
      try simp only [Act.put, List.setIfInBounds_toArray, List.set_cons_succ, List.set_cons_zero]
      refine takeH 13 (some 72) (.bool true) rfl rfl (by kernel_rfl) (by kernel_rfl) (by kernel_rfl) (fun _ _ _ h => h) rfl (fun w _ => by go_simp) HS4.out ?_
      try simp only [Act.put, List.setIfInBounds_toArray, List.set_cons_succ, List.set_cons_zero]
      refine takeH 14 (some 73) (.bool true) rfl rfl (by kernel_rfl) (by kernel_rfl) (by kernel_rfl) (fun _ _ _ h => h) rfl (fun w _ => by go_simp) HS4.out ?_
      try simp only [Act.put, List.setIfInBounds_toArray, List.set_cons_succ, List.set_cons_zero]
      refine takeH 15 (some 74) (.agg #[.int .i64 (g.p + 1), .int .i64 g.s, .int .i64 g.l, .int .i64 g.f]) rfl rfl (by kernel_rfl) (by kernel_rfl) (by kernel_rfl) (fun _ _ _ h => h) rfl (fun wq hS => by have B := HX.out.2.2.2.below (HT.out.trans (hS.mono HT.out.size)) HX.out.2.2.2.lt; have d0 := B.cell (i := 0) rfl; have d1 := B.cell (i := 1) rfl; have d2 := B.cell (i := 2) rfl; have d3 := B.cell (i := 3) rfl; go_simp) HS4.out ?_
      try simp only [Act.put, List.setIfInBounds_toArray, List.set_cons_succ, List.set_cons_zero]
      refine takeH 17 (some 76) (.agg #[.int .i64 g.p, .int .i64 g.s, .int .i64 g.l, .int .i64 g.f]) rfl rfl (by kernel_rfl) (by kernel_rfl) (by kernel_rfl) (fun _ _ _ h => h) rfl (fun wq hS => by obtain ⟨c0, c1, c2, c3⟩ := HX.out.2.1.below (HT.out.trans (hS.mono HT.out.size)) HL.out; go_simp) HS4.out ?_
      try simp only [Act.put, List.setIfInBounds_toArray, List.set_cons_succ, List.set_cons_zero]
      refine oneH 16 (by kernel_rfl) rfl rfl fun K hK => ?_
      go_simp
      refine (HK13.out _).mono ?_
      rintro e wv5 ⟨rfl, hb⟩
      have HS5 := Lib.hid (stay HS4.out hb)
      refine hK _ _ HS5.out ?_
      clear hK hb K
      try simp only [Act.put, List.setIfInBounds_toArray, List.set_cons_succ, List.set_cons_zero]
      refine oneH 18 (by kernel_rfl) rfl rfl fun K hK => ?_
      go_simp
      refine (H13.out _).mono ?_
      rintro e wv6 ⟨rfl, hb⟩
      have HS6 := Lib.hid (stay HS5.out hb)
      refine hK _ _ HS6.out ?_
      clear hK hb K
      try simp only [Act.put, List.setIfInBounds_toArray, List.set_cons_succ, List.set_cons_zero]
      refine takeH 19 (some 78) (.int .i64 (g.cap + 1)) rfl rfl (by kernel_rfl) (by kernel_rfl) (by kernel_rfl) (fun _ _ _ h => h) rfl (fun w _ => by go_simp <;> first | done | (go_ints; first | done | trivial)) HS6.out ?_
      try simp only [Act.put, List.setIfInBounds_toArray, List.set_cons_succ, List.set_cons_zero]
      refine takeH 20 (some 79) (.bool true) rfl rfl (by kernel_rfl) (by kernel_rfl) (by kernel_rfl) (fun _ _ _ h => h) rfl (fun w _ => by first | (go_simp; done) | (go_simp; omega)) HS6.out ?_
      try simp only [Act.put, List.setIfInBounds_toArray, List.set_cons_succ, List.set_cons_zero]
      refine takeH 21 (some 80) (.bool true) rfl rfl (by kernel_rfl) (by kernel_rfl) (by kernel_rfl) (fun _ _ _ h => h) rfl (fun w _ => by go_simp) HS6.out ?_
      try simp only [Act.put, List.setIfInBounds_toArray, List.set_cons_succ, List.set_cons_zero]
      refine takeH 22 (some 81) (.bool true) rfl rfl (by kernel_rfl) (by kernel_rfl) (by kernel_rfl) (fun _ _ _ h => h) rfl (fun w _ => by go_simp) HS6.out ?_
      try simp only [Act.put, List.setIfInBounds_toArray, List.set_cons_succ, List.set_cons_zero]
      refine oneH 23 (by kernel_rfl) rfl rfl fun K hK => ?_
      go_simp
      refine (wakes_any _).mono ?_
      rintro e wv7 ⟨rfl, hb⟩
      have HS7 := Lib.hid (stay HS6.out hb)
      refine hK _ _ HS7.out ?_
      clear hK hb K
      try simp only [Act.put, List.setIfInBounds_toArray, List.set_cons_succ, List.set_cons_zero]
      refine takeH 24 (some 83) (.bool true) rfl rfl (by kernel_rfl) (by kernel_rfl) (by kernel_rfl) (fun _ _ _ h => h) rfl (fun w _ => by go_simp) HS7.out ?_
      try simp only [Act.put, List.setIfInBounds_toArray, List.set_cons_succ, List.set_cons_zero]
      refine takeH 25 (some 2) (.bool true) rfl rfl (by kernel_rfl) (by kernel_rfl) (by kernel_rfl) (fun _ _ _ h => h) rfl (fun w _ => by go_simp) HS7.out ?_
      try simp only [Act.put, List.setIfInBounds_toArray, List.set_cons_succ, List.set_cons_zero]
      refine wpAnyH_done (by kernel_rfl) ?_ _
      go_wp2_with fail
      go_ret
      exact ⟨rfl, (HX.out.1.trans (HT.out.mono HX.out.1.size)).trans (HS7.out.mono (Nat.le_trans HX.out.1.size HT.out.size))⟩
  · have hO : ¬ g.next.Ok := fun o => hp o.1.2
    have HK10 := Lib.hid (show ∀ w, Calls Try.prog 10 #[.agg #[.int .i64 (g.p + 1), .int .i64 g.s, .int .i64 g.l, .int .i64 g.f]] w fun e w' => e = .returned (.bool false) ∧ Below w.heap.size w w' from rgood_no g.next hO)
    clear hO
    go_wp2_with fail
    refine (HK10.out _).mono ?_
    rintro e wt ⟨rfl, hb⟩
    have HT := Lib.hid (stay HS.out hb)
    clear hb d0 d1 d2 d3
    go_wp2_with fail
    refine (wakes_any _).mono ?_
    rintro e wu ⟨rfl, hb⟩
    have HU := Lib.hid (stay HT.out hb)
    clear hb
    go_wp2_with fail
    go_ret
    exact ⟨rfl, HX.out.1.trans (HU.out.mono HX.out.1.size)⟩
theorem grows_any (g : Gm) (w : World) : Calls Try.prog 5 #[g.v] w fun e w' => e = .returned (.bool true) ∧ Below w.heap.size w w' := by
  by_cases h : g.Ok
  · exact grows_yes g h w
  · exact grows_no g h w
end Go.Proofs.Ytokenmidcpfneaa
