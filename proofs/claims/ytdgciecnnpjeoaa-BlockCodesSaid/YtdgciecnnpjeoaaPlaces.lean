/- The statement BlockPlaces' walk. -/
import Derived.Test.YtdgciecnnpjeoaaNumbers
namespace Go.Proofs.Ytdgciecnnpjeoaa
open Go.RowKit

theorem enc_num {b : Bk} (n : Int) : (b.enc n)[2]? = some (n % 256) ∧ (b.enc n)[3]? = some (n / 256 % 256) ∧ (b.enc n)[4]? = some (n / 65536 % 256) ∧ (b.enc n)[5]? = some (n / 16777216 % 256) := by
  unfold Bk.enc
  rw [le4]
  split
  · exact ⟨rfl, rfl, rfl, rfl⟩
  · split
    · exact ⟨rfl, rfl, rfl, rfl⟩
    · exact ⟨rfl, rfl, rfl, rfl⟩
theorem enc_head {b : Bk} (h : b.good = true) (n : Int) : (b.enc n)[0]? = some b.kind ∧ (b.enc n)[1]? = some b.id := by
  unfold Bk.enc
  rcases (good_kind h).1 with k | k | k
  · rw [if_pos k, k]; exact ⟨rfl, rfl⟩
  · rw [if_neg (by omega), if_pos k, k]; exact ⟨rfl, rfl⟩
  · rw [if_neg (by omega), if_neg (by omega), k]; exact ⟨rfl, rfl⟩
theorem img_cells {b : Bk} (w : b.Wf) (k : b.kind = 1) (n : Int) : (∀ (j : Nat) (x : Int), b.page[j]? = some x → (b.enc n)[6 + j]? = some x) ∧ ∀ j, 38 ≤ j → j < 64 → (b.enc n)[j]? = some 0 := by
  have hp := w.page
  unfold Bk.enc
  rw [if_pos k]
  refine ⟨fun j x hx => ?_, fun j h1 h2 => ?_⟩
  · have hj := (List.getElem?_eq_some_iff.1 hx).1
    rw [show 6 + j = j + 6 by omega]
    simp only [le, List.cons_append, List.nil_append, List.getElem?_cons_succ]
    rw [List.getElem?_append_left hj, hx]
  · obtain ⟨i, rfl⟩ : ∃ i, j = i + 6 := ⟨j - 6, by omega⟩
    simp only [le, List.cons_append, List.nil_append, List.getElem?_cons_succ]
    rw [List.getElem?_append_right (by omega), hp, zeros, List.getElem?_replicate, if_pos (by omega)]
theorem dlt_cells {b : Bk} (h : b.good = true) (k : b.kind = 2) (n : Int) : (b.enc n)[6]? = some b.off ∧ (b.enc n)[7]? = some (b.bytes.length : Int) ∧ (∀ (j : Nat) (x : Int), b.bytes[j]? = some x → (b.enc n)[8 + j]? = some x) ∧
    (∀ j, 8 + b.bytes.length ≤ j → j < 24 → (b.enc n)[j]? = some 0) ∧ (b.enc n)[24]? = some (b.prev % 256) ∧ (b.enc n)[25]? = some (b.prev / 256 % 256) ∧ ∀ j, 26 ≤ j → j < 64 → (b.enc n)[j]? = some 0 := by
  obtain ⟨⟨l1, l2⟩, _⟩ := good2 h k
  unfold Bk.enc
  rw [if_neg (by omega), if_pos k]
  have at8 : ∀ i, (2 :: b.id :: (le 4 n ++ (b.off :: (b.bytes.length : Int) :: (b.bytes ++ (zeros (16 - b.bytes.length) ++ (le 2 b.prev ++ zeros 38))))))[i + 8]? = (b.bytes ++ (zeros (16 - b.bytes.length) ++ (le 2 b.prev ++ zeros 38)))[i]? := fun i => by
    simp only [le, List.cons_append, List.nil_append, List.getElem?_cons_succ]
  have at24 : ∀ i, (2 :: b.id :: (le 4 n ++ (b.off :: (b.bytes.length : Int) :: (b.bytes ++ (zeros (16 - b.bytes.length) ++ (le 2 b.prev ++ zeros 38))))))[i + 24]? = (le 2 b.prev ++ zeros 38)[i]? := fun i => by
    rw [show i + 24 = (i + 16) + 8 by omega, at8, List.getElem?_append_right (by omega), List.getElem?_append_right (by rw [zeros_length]; omega), zeros_length]
    congr 1
    omega
  refine ⟨rfl, rfl, fun j x hx => ?_, fun j h1 h2 => ?_, at24 0, at24 1, fun j h1 h2 => ?_⟩
  · rw [show 8 + j = j + 8 by omega, at8, List.getElem?_append_left (List.getElem?_eq_some_iff.1 hx).1, hx]
  · obtain ⟨i, rfl⟩ : ∃ i, j = i + 8 := ⟨j - 8, by omega⟩
    rw [at8, List.getElem?_append_right (by omega), List.getElem?_append_left (by rw [zeros_length]; omega), zeros, List.getElem?_replicate, if_pos (by omega)]
  · obtain ⟨i, rfl⟩ : ∃ i, j = i + 2 + 24 := ⟨j - 26, by omega⟩
    rw [at24]
    simp only [le, List.cons_append, List.nil_append, List.getElem?_cons_succ]
    rw [zeros, List.getElem?_replicate, if_pos (by omega)]
theorem flat_at (l : List Int) (i : Nat) (x : Int) (h : l[i]? = some x) : (l.flatMap (le 2))[2 * i]? = some (x % 256) ∧ (l.flatMap (le 2))[2 * i + 1]? = some (x / 256 % 256) := by
  induction l generalizing i with
  | nil => simp at h
  | cons y l ih =>
    cases i with
    | zero => simp at h; subst h; exact ⟨rfl, rfl⟩
    | succ i =>
      simp at h
      have := ih i h
      rw [show 2 * (i + 1) = 2 * i + 1 + 1 by omega]
      simpa [le] using this
theorem map_cells {b : Bk} (w : b.Wf) (k : b.kind = 3) (n : Int) : (∀ (j : Nat) (x : Int), b.heads[j]? = some x → (b.enc n)[6 + 2 * j]? = some (x % 256) ∧ (b.enc n)[7 + 2 * j]? = some (x / 256 % 256)) ∧ ∀ j, 22 ≤ j → j < 64 → (b.enc n)[j]? = some 0 := by
  have hf := flat_length b.heads
  rw [w.heads] at hf
  unfold Bk.enc
  rw [if_neg (by omega), if_neg (by omega)]
  have at6 : ∀ i, (3 :: b.id :: (le 4 n ++ (b.heads.flatMap (le 2) ++ zeros 42)))[i + 6]? = (b.heads.flatMap (le 2) ++ zeros 42)[i]? := fun i => by
    simp only [le, List.cons_append, List.nil_append, List.getElem?_cons_succ]
  refine ⟨fun j x hx => ?_, fun j h1 h2 => ?_⟩
  · have hj := (List.getElem?_eq_some_iff.1 hx).1
    rw [w.heads] at hj
    obtain ⟨e1, e2⟩ := flat_at _ j x hx
    rw [show 6 + 2 * j = 2 * j + 6 by omega, show 7 + 2 * j = 2 * j + 1 + 6 by omega, at6, at6, List.getElem?_append_left (by omega), List.getElem?_append_left (by omega)]
    exact ⟨e1, e2⟩
  · obtain ⟨i, rfl⟩ : ∃ i, j = i + 6 := ⟨j - 6, by omega⟩
    rw [at6, List.getElem?_append_right (by omega), hf, zeros, List.getElem?_replicate, if_pos (by omega)]
/-- Part of a block of bytes, as a slice. -/
theorem BytesAt.of_part {w : World} {g : Nat} {L l : List Int} (o cap : Nat) (h : Blk w g (u8s L)) (hl : ∀ (j : Nat) (x : Int), l[j]? = some x → L[o + j]? = some x) : BytesAt w (.slice (some ⟨g, o, none⟩) l.length cap) l :=
  ⟨_, cap, rfl, fun i x hx => ⟨g, o, rfl, h.cell (by rw [List.getElem?_map, hl i x hx]; rfl)⟩⟩
theorem arr30 : Try.prog.underlying 30 = some (.array (Try.prog.arrayLen 30) (Try.prog.elem 30)) ∧ Try.prog.arrayLen 30 = 64 ∧ Try.prog.elem 30 = 5 := ⟨by kernel_rfl, by kernel_rfl, by kernel_rfl⟩
/-- Part of a sector, from byte 8 on. -/
theorem slice8 (w : World) (g n : Nat) (hn : n ≤ 16) : (Instr.sliceAt 30 (.pointer (some ⟨g, 0, none⟩)) (some (.int .i64 8)) (some (.int .i64 (8 + (n : Int)))) none).run Try.prog w = .ok (.slice (some ⟨g, 8, none⟩) n 56) w := by
  obtain ⟨i, hi, hs⟩ := size_of info5s
  rw [run_sliceAt_array_lh w 30 ⟨g, 0, none⟩ arr30.1 .i64 .i64 8 (8 + (n : Int)) (by omega) (by omega) (by rw [arr30.2.1]; omega), arr30.2.2, arr30.2.1]
  simp only [sizeOf, typeInfo, Sem.run_bind, run_program, hi, Result.andThen_ok, Sem.run_pure, hs, slicedAt]
  rw [if_neg (by decide), show (8 + (n : Int)).toNat - (8 : Int).toNat = n by omega]
  rfl
theorem exec_slice8 (w : World) (ev : Operand → Value) (o : Oper) (x y : Operand) (ho : o.op = .slice 30 x (some (.const (.int .i64 8))) (some y) none) (g n : Nat) (hx : ev x = .pointer (some ⟨g, 0, none⟩)) (hy : ev y = .int .i64 (8 + (n : Int))) (hc : ev (.const (.int .i64 8)) = .int .i64 8) (hn : n ≤ 16) :
    (execOp ev o).run Try.prog w = .ok (.value (.slice (some ⟨g, 8, none⟩) n 56)) w := by
  unfold execOp
  simp only [ho, hx, hy, hc, Option.map_some, Option.map_none, Sem.run_bind, slice8 w g n hn, Result.andThen_ok, Sem.run_pure]
theorem bytes_same {w : World} {sv cv : Value} {l : List Int} (h : BytesAt w sv l) (k : BytesAt w cv l) (hl : ∀ x ∈ l, Byte x) : Calls Try.prog 17 #[sv, cv] w fun e w' => e = .returned (.bool true) ∧ w = w' := by
  have := bytes_any h k hl hl
  rwa [decide_eq_true (rfl : l = l)] at this
set_option maxHeartbeats 4000000 in
set_option maxRecDepth 100000 in
theorem places_long (b : Bk) (sv : Value) (hb : b.Wf) (n : Int) (hn : 0 ≤ n ∧ n < 4294967296) (hl : 300 < b.bytes.length) (w : World) (hbs : BytesAt w sv b.bytes) : Calls Try.prog 6 #[.agg (b.arr sv), .int .u32 n] w fun e w' => e = .returned (.bool true) ∧ Below w.heap.size w w' := by
  have HWb := Lib.hid hb
  have HZb := Lib.hid (b.arr_size hb sv)
  have HXb := Lib.hid (sec_length hb n)
  have HSb : Hid ((u8s (b.sec n)).toArray.size = 64) := Lib.hid (by rw [u8s_size, HXb.out])
  have HNN := Lib.hid hn
  obtain ⟨ab, capb, hsvb⟩ := hbs.len
  have HSVb := Lib.hid hsvb
  have FYB := Lib.hid hbs
  have HBL : Hid (Below w.heap.size w w) := Lib.hid (Below.refl _ _)
  have hl2 : (300 : Int) < b.bytes.length := by omega
  clear hb hbs hsvb
  obtain ⟨hn1, hn2⟩ := hn
  go_enter Try.func6, Try.ntmps6
  repeat (first | (with_reducible refine stopR (id := 0) ?_) | go_values | go_skip | go_guarded | go_step | go_upon | go_back)
  refine Stop.mk (wp_region_lit ?_)
  refine box_g rfl rfl ?_
  intro w1 hA hb hl
  try simp only [Act.put, List.setIfInBounds_toArray, List.set_cons_succ, List.set_cons_zero]
  clear hl
  have F2 := Lib.hid (HBL.out.trans (hb.mono HBL.out.size))
  have F3 := Lib.hid (FYB.out.below hb)
  clear HBL FYB
  have F4 := Lib.hid (show BAt _ _ b sv from ⟨hA, HWb.out⟩)
  clear hA hb
  refine takeL (.bool false) rfl (by go_simp) ?_
  try simp only [Act.put, List.setIfInBounds_toArray, List.set_cons_succ, List.set_cons_zero]
  refine wpList_nil ?_
  repeat (first | (with_reducible refine stopR (id := 1) ?_) | go_values | go_skip | go_guarded | go_step | go_upon | go_back)
  refine Stop.mk (wp_region_lit ?_)
  refine takeL (.pointer (some ⟨w.heap.size, 35, none⟩)) rfl (by go_simp) ?_
  try simp only [Act.put, List.setIfInBounds_toArray, List.set_cons_succ, List.set_cons_zero]
  refine takeL (.slice ab b.bytes.length capb) rfl (by have hq := F4.out.c35.trans (congrArg some HSVb.out); go_simp) ?_
  try simp only [Act.put, List.setIfInBounds_toArray, List.set_cons_succ, List.set_cons_zero]
  refine takeL (.int .i64 (b.bytes.length)) rfl (by go_simp) ?_
  try simp only [Act.put, List.setIfInBounds_toArray, List.set_cons_succ, List.set_cons_zero]
  refine takeL (.bool true) rfl (by go_simp) ?_
  try simp only [Act.put, List.setIfInBounds_toArray, List.set_cons_succ, List.set_cons_zero]
  refine wpList_nil ?_
  repeat (first | (with_reducible refine stopR (id := 2) ?_) | go_values | go_skip | go_guarded | go_step | go_upon | go_back)
  refine Stop.mk (wp_region_lit ?_)
  refine wpList_op rfl fun K hK => ?_
  go_simp
  refine (wakes_any _).mono ?_
  rintro e w5 ⟨rfl, hb⟩
  have F6 := Lib.hid (F2.out.trans (hb.mono F2.out.size))
  have F7 := Lib.hid (F3.out.below hb)
  have F8 := Lib.hid (F4.out.below hb F4.out.lt)
  clear F2 F3 F4
  clear hb
  refine hK _ _ ?_
  clear hK K
  try simp only [Act.put, List.setIfInBounds_toArray, List.set_cons_succ, List.set_cons_zero]
  refine takeL (.bool true) rfl (by go_simp) ?_
  try simp only [Act.put, List.setIfInBounds_toArray, List.set_cons_succ, List.set_cons_zero]
  refine wpList_nil ?_
  go_wp2_with fail
  go_ret
  exact ⟨rfl, F6.out⟩
set_option maxHeartbeats 4000000 in
set_option maxRecDepth 100000 in
theorem places_bad (b : Bk) (sv : Value) (hb : b.Wf) (n : Int) (hn : 0 ≤ n ∧ n < 4294967296) (hl : b.bytes.length ≤ 300) (gb : b.good = false) (w : World) (hbs : BytesAt w sv b.bytes) : Calls Try.prog 6 #[.agg (b.arr sv), .int .u32 n] w fun e w' => e = .returned (.bool true) ∧ Below w.heap.size w w' := by
  have HWb := Lib.hid hb
  have HZb := Lib.hid (b.arr_size hb sv)
  have HXb := Lib.hid (sec_length hb n)
  have HSb : Hid ((u8s (b.sec n)).toArray.size = 64) := Lib.hid (by rw [u8s_size, HXb.out])
  have HNN := Lib.hid hn
  obtain ⟨ab, capb, hsvb⟩ := hbs.len
  have HSVb := Lib.hid hsvb
  have FYB := Lib.hid hbs
  have HBL : Hid (Below w.heap.size w w) := Lib.hid (Below.refl _ _)
  have hl1 : ¬ (300 : Int) < b.bytes.length := by omega
  have HGb := Lib.hid gb
  have HEQ := Lib.hid fun w => eql30 w (b.sec n) (zeros 64) (sec_length hb n) (zeros_length 64)
  have hz : decide (b.sec n = zeros 64) = true := by unfold Bk.sec; rw [gb]; simp
  rw [hz] at HEQ
  clear gb hz
  clear hb hbs hsvb
  obtain ⟨hn1, hn2⟩ := hn
  go_enter Try.func6, Try.ntmps6
  repeat (first | (with_reducible refine stopR (id := 0) ?_) | go_values | go_skip | go_guarded | go_step | go_upon | go_back)
  refine Stop.mk (wp_region_lit ?_)
  refine box_g rfl rfl ?_
  intro w1 hA hb hl
  try simp only [Act.put, List.setIfInBounds_toArray, List.set_cons_succ, List.set_cons_zero]
  clear hl
  have F2 := Lib.hid (HBL.out.trans (hb.mono HBL.out.size))
  have F3 := Lib.hid (FYB.out.below hb)
  clear HBL FYB
  have F4 := Lib.hid (show BAt _ _ b sv from ⟨hA, HWb.out⟩)
  clear hA hb
  refine takeL (.bool false) rfl (by go_simp) ?_
  try simp only [Act.put, List.setIfInBounds_toArray, List.set_cons_succ, List.set_cons_zero]
  refine wpList_nil ?_
  repeat (first | (with_reducible refine stopR (id := 1) ?_) | go_values | go_skip | go_guarded | go_step | go_upon | go_back)
  refine Stop.mk (wp_region_lit ?_)
  refine takeL (.pointer (some ⟨w.heap.size, 35, none⟩)) rfl (by go_simp) ?_
  try simp only [Act.put, List.setIfInBounds_toArray, List.set_cons_succ, List.set_cons_zero]
  refine takeL (.slice ab b.bytes.length capb) rfl (by have hq := F4.out.c35.trans (congrArg some HSVb.out); go_simp) ?_
  try simp only [Act.put, List.setIfInBounds_toArray, List.set_cons_succ, List.set_cons_zero]
  refine takeL (.int .i64 (b.bytes.length)) rfl (by go_simp) ?_
  try simp only [Act.put, List.setIfInBounds_toArray, List.set_cons_succ, List.set_cons_zero]
  refine takeL (.bool false) rfl (by go_simp) ?_
  try simp only [Act.put, List.setIfInBounds_toArray, List.set_cons_succ, List.set_cons_zero]
  refine wpList_nil ?_
  repeat (first | (with_reducible refine stopR (id := 3) ?_) | go_values | go_skip | go_guarded | go_step | go_upon | go_back)
  refine Stop.mk (wp_region_lit ?_)
  refine load27 (cs := (b.arr sv)) F4.out.all HZb.out rfl rfl ?_
  try simp only [Act.put, List.setIfInBounds_toArray, List.set_cons_succ, List.set_cons_zero]
  refine takeL (.int .u32 n) rfl (by go_simp) ?_
  try simp only [Act.put, List.setIfInBounds_toArray, List.set_cons_succ, List.set_cons_zero]
  refine wpList_op rfl fun K hK => ?_
  go_simp
  refine (encode_err (err_bad HGb.out) sv n _ F3.out HWb.out HNN.out).mono ?_
  rintro e w5 ⟨rfl, hb⟩
  have F6 := Lib.hid (F2.out.trans (hb.mono F2.out.size))
  have F7 := Lib.hid (F3.out.below hb)
  have F8 := Lib.hid (F4.out.below hb F4.out.lt)
  clear F2 F3 F4
  clear hb
  refine hK _ _ ?_
  clear hK K
  try simp only [Act.put, List.setIfInBounds_toArray, List.set_cons_succ, List.set_cons_zero]
  refine takeL (.tuple #[.agg (u8s (b.sec n)).toArray, .int .i64 11]) rfl (by go_simp) ?_
  try simp only [Act.put, List.setIfInBounds_toArray, List.set_cons_succ, List.set_cons_zero]
  refine takeL (.agg (u8s (b.sec n)).toArray) rfl (by go_simp) ?_
  try simp only [Act.put, List.setIfInBounds_toArray, List.set_cons_succ, List.set_cons_zero]
  refine takeL (.int .i64 11) rfl (by go_simp) ?_
  try simp only [Act.put, List.setIfInBounds_toArray, List.set_cons_succ, List.set_cons_zero]
  refine alloc_g zero30 rfl ?_
  intro w9 hC hBC hlC
  try simp only [Act.put, List.setIfInBounds_toArray, List.set_cons_succ, List.set_cons_zero]
  refine store_all (cs := (u8s (b.sec n)).toArray) hC (by rw [HSb.out]; simp [zeros]) (by rw [HSb.out]; exact info30) (u8s_one _) rfl rfl rfl ?_
  intro w10 hD hOD hlD
  try simp only [Act.put, List.setIfInBounds_toArray, List.set_cons_succ, List.set_cons_zero]
  have hb := hBC.trans (hOD.below hBC.size (fun k hk => Nat.le_of_eq hk.symm))
  have F11 := Lib.hid (F6.out.trans (hb.mono F6.out.size))
  have F12 := Lib.hid (F7.out.below hb)
  have F13 := Lib.hid (F8.out.below hb F8.out.lt)
  clear F6 F7 F8
  have F14 := Lib.hid hD
  clear hC hBC hlC hD hOD hlD hb
  generalize w5.heap.size = g15 at *
  clear w9 w5
  refine takeL (.int .i64 11) rfl (by go_simp) ?_
  try simp only [Act.put, List.setIfInBounds_toArray, List.set_cons_succ, List.set_cons_zero]
  refine wpList_nil ?_
  repeat (first | (with_reducible refine stopR (id := 4) ?_) | go_values | go_skip | go_guarded | go_step | go_upon | go_back)
  refine Stop.mk (wp_region_lit ?_)
  refine takeL (.int .i64 11) rfl (by go_simp) ?_
  try simp only [Act.put, List.setIfInBounds_toArray, List.set_cons_succ, List.set_cons_zero]
  refine takeL (.bool true) rfl (by go_simp) ?_
  try simp only [Act.put, List.setIfInBounds_toArray, List.set_cons_succ, List.set_cons_zero]
  refine wpList_nil ?_
  repeat (first | (with_reducible refine stopR (id := 5) ?_) | go_values | go_skip | go_guarded | go_step | go_upon | go_back)
  refine Stop.mk (wp_region_lit ?_)
  refine load30 (cs := (u8s (b.sec n)).toArray) (Blk.all F14.out rfl) HSb.out rfl rfl ?_
  try simp only [Act.put, List.setIfInBounds_toArray, List.set_cons_succ, List.set_cons_zero]
  refine build_g (build30 _) rfl ?_
  try simp only [Act.put, List.setIfInBounds_toArray, List.set_cons_succ, List.set_cons_zero]
  refine takeL (.bool true) rfl (by have hq := HEQ.out; go_simp) ?_
  try simp only [Act.put, List.setIfInBounds_toArray, List.set_cons_succ, List.set_cons_zero]
  refine takeL (.bool true) rfl (by go_simp) ?_
  try simp only [Act.put, List.setIfInBounds_toArray, List.set_cons_succ, List.set_cons_zero]
  refine takeL (.int .i64 11) rfl (by go_simp) ?_
  try simp only [Act.put, List.setIfInBounds_toArray, List.set_cons_succ, List.set_cons_zero]
  refine takeL (.bool true) rfl (by go_simp) ?_
  try simp only [Act.put, List.setIfInBounds_toArray, List.set_cons_succ, List.set_cons_zero]
  refine takeL (.bool true) rfl (by go_simp) ?_
  try simp only [Act.put, List.setIfInBounds_toArray, List.set_cons_succ, List.set_cons_zero]
  refine takeL (.bool true) rfl (by go_simp) ?_
  try simp only [Act.put, List.setIfInBounds_toArray, List.set_cons_succ, List.set_cons_zero]
  refine load27 (cs := (b.arr sv)) F13.out.all HZb.out rfl rfl ?_
  try simp only [Act.put, List.setIfInBounds_toArray, List.set_cons_succ, List.set_cons_zero]
  refine wpList_op rfl fun K hK => ?_
  go_simp
  refine (good_is HGb.out sv F12.out.len HWb.out _).mono ?_
  rintro e w16 ⟨rfl, hb⟩
  have F17 := Lib.hid (F11.out.trans (hb.mono F11.out.size))
  have F18 := Lib.hid (F12.out.below hb)
  have F19 := Lib.hid (F13.out.below hb F13.out.lt)
  have F20 := Lib.hid (F14.out.below hb F14.out.lt)
  clear F11 F12 F13 F14
  clear hb
  refine hK _ _ ?_
  clear hK K
  try simp only [Act.put, List.setIfInBounds_toArray, List.set_cons_succ, List.set_cons_zero]
  refine takeL (.bool true) rfl (by go_simp) ?_
  try simp only [Act.put, List.setIfInBounds_toArray, List.set_cons_succ, List.set_cons_zero]
  refine takeL (.bool true) rfl (by go_simp) ?_
  try simp only [Act.put, List.setIfInBounds_toArray, List.set_cons_succ, List.set_cons_zero]
  refine takeL (.bool true) rfl (by go_simp) ?_
  try simp only [Act.put, List.setIfInBounds_toArray, List.set_cons_succ, List.set_cons_zero]
  refine wpList_op rfl fun K hK => ?_
  go_simp
  refine (wakes_any _).mono ?_
  rintro e w21 ⟨rfl, hb⟩
  have F22 := Lib.hid (F17.out.trans (hb.mono F17.out.size))
  have F23 := Lib.hid (F18.out.below hb)
  have F24 := Lib.hid (F19.out.below hb F19.out.lt)
  have F25 := Lib.hid (F20.out.below hb F20.out.lt)
  clear F17 F18 F19 F20
  clear hb
  refine hK _ _ ?_
  clear hK K
  try simp only [Act.put, List.setIfInBounds_toArray, List.set_cons_succ, List.set_cons_zero]
  refine takeL (.bool true) rfl (by go_simp) ?_
  try simp only [Act.put, List.setIfInBounds_toArray, List.set_cons_succ, List.set_cons_zero]
  refine takeL (.bool true) rfl (by go_simp) ?_
  try simp only [Act.put, List.setIfInBounds_toArray, List.set_cons_succ, List.set_cons_zero]
  refine wpList_nil ?_
  go_wp2_with fail
  go_ret
  exact ⟨rfl, F22.out⟩
set_option maxHeartbeats 4000000 in
set_option maxRecDepth 100000 in
theorem places_img (b : Bk) (sv : Value) (hb : b.Wf) (n : Int) (hn : 0 ≤ n ∧ n < 4294967296) (hl : b.bytes.length ≤ 300) (gb : b.good = true) (hk : b.kind = 1) (w : World) (hbs : BytesAt w sv b.bytes) : Calls Try.prog 6 #[.agg (b.arr sv), .int .u32 n] w fun e w' => e = .returned (.bool true) ∧ Below w.heap.size w w' := by
  have HWb := Lib.hid hb
  have HZb := Lib.hid (b.arr_size hb sv)
  have HXb := Lib.hid (sec_length hb n)
  have HSb : Hid ((u8s (b.sec n)).toArray.size = 64) := Lib.hid (by rw [u8s_size, HXb.out])
  have HNN := Lib.hid hn
  obtain ⟨ab, capb, hsvb⟩ := hbs.len
  have HSVb := Lib.hid hsvb
  have FYB := Lib.hid hbs
  have HBL : Hid (Below w.heap.size w w) := Lib.hid (Below.refl _ _)
  have hl1 : ¬ (300 : Int) < b.bytes.length := by omega
  have HGb := Lib.hid gb
  have HK := Lib.hid hk
  have hse := sec_good gb n
  have hcl := img_cells hb hk n
  have hcn := enc_num (b := b) n
  have hch := enc_head gb n
  rw [← hse] at hcl hcn hch
  rw [hk] at hch
  have HCL := Lib.hid hcl
  have HCN := Lib.hid hcn
  have HCH := Lib.hid hch
  obtain ⟨_, hi1, hi2⟩ := good_kind gb


  clear gb hk hse hcl hcn hch
  clear hb hbs hsvb
  obtain ⟨hn1, hn2⟩ := hn
  go_enter Try.func6, Try.ntmps6
  repeat (first | (with_reducible refine stopR (id := 0) ?_) | go_values | go_skip | go_guarded | go_step | go_upon | go_back)
  refine Stop.mk (wp_region_lit ?_)
  refine box_g rfl rfl ?_
  intro w1 hA hb hl
  try simp only [Act.put, List.setIfInBounds_toArray, List.set_cons_succ, List.set_cons_zero]
  clear hl
  have F2 := Lib.hid (HBL.out.trans (hb.mono HBL.out.size))
  have F3 := Lib.hid (FYB.out.below hb)
  clear HBL FYB
  have F4 := Lib.hid (show BAt _ _ b sv from ⟨hA, HWb.out⟩)
  clear hA hb
  refine takeL (.bool false) rfl (by go_simp) ?_
  try simp only [Act.put, List.setIfInBounds_toArray, List.set_cons_succ, List.set_cons_zero]
  refine wpList_nil ?_
  repeat (first | (with_reducible refine stopR (id := 1) ?_) | go_values | go_skip | go_guarded | go_step | go_upon | go_back)
  refine Stop.mk (wp_region_lit ?_)
  refine takeL (.pointer (some ⟨w.heap.size, 35, none⟩)) rfl (by go_simp) ?_
  try simp only [Act.put, List.setIfInBounds_toArray, List.set_cons_succ, List.set_cons_zero]
  refine takeL (.slice ab b.bytes.length capb) rfl (by have hq := F4.out.c35.trans (congrArg some HSVb.out); go_simp) ?_
  try simp only [Act.put, List.setIfInBounds_toArray, List.set_cons_succ, List.set_cons_zero]
  refine takeL (.int .i64 (b.bytes.length)) rfl (by go_simp) ?_
  try simp only [Act.put, List.setIfInBounds_toArray, List.set_cons_succ, List.set_cons_zero]
  refine takeL (.bool false) rfl (by go_simp) ?_
  try simp only [Act.put, List.setIfInBounds_toArray, List.set_cons_succ, List.set_cons_zero]
  refine wpList_nil ?_
  repeat (first | (with_reducible refine stopR (id := 3) ?_) | go_values | go_skip | go_guarded | go_step | go_upon | go_back)
  refine Stop.mk (wp_region_lit ?_)
  refine load27 (cs := (b.arr sv)) F4.out.all HZb.out rfl rfl ?_
  try simp only [Act.put, List.setIfInBounds_toArray, List.set_cons_succ, List.set_cons_zero]
  refine takeL (.int .u32 n) rfl (by go_simp) ?_
  try simp only [Act.put, List.setIfInBounds_toArray, List.set_cons_succ, List.set_cons_zero]
  refine wpList_op rfl fun K hK => ?_
  go_simp
  refine (encode_err (err_good HGb.out) sv n _ F3.out HWb.out HNN.out).mono ?_
  rintro e w5 ⟨rfl, hb⟩
  have F6 := Lib.hid (F2.out.trans (hb.mono F2.out.size))
  have F7 := Lib.hid (F3.out.below hb)
  have F8 := Lib.hid (F4.out.below hb F4.out.lt)
  clear F2 F3 F4
  clear hb
  refine hK _ _ ?_
  clear hK K
  try simp only [Act.put, List.setIfInBounds_toArray, List.set_cons_succ, List.set_cons_zero]
  refine takeL (.tuple #[.agg (u8s (b.sec n)).toArray, .int .i64 0]) rfl (by go_simp) ?_
  try simp only [Act.put, List.setIfInBounds_toArray, List.set_cons_succ, List.set_cons_zero]
  refine takeL (.agg (u8s (b.sec n)).toArray) rfl (by go_simp) ?_
  try simp only [Act.put, List.setIfInBounds_toArray, List.set_cons_succ, List.set_cons_zero]
  refine takeL (.int .i64 0) rfl (by go_simp) ?_
  try simp only [Act.put, List.setIfInBounds_toArray, List.set_cons_succ, List.set_cons_zero]
  refine alloc_g zero30 rfl ?_
  intro w9 hC hBC hlC
  try simp only [Act.put, List.setIfInBounds_toArray, List.set_cons_succ, List.set_cons_zero]
  refine store_all (cs := (u8s (b.sec n)).toArray) hC (by rw [HSb.out]; simp [zeros]) (by rw [HSb.out]; exact info30) (u8s_one _) rfl rfl rfl ?_
  intro w10 hD hOD hlD
  try simp only [Act.put, List.setIfInBounds_toArray, List.set_cons_succ, List.set_cons_zero]
  have hb := hBC.trans (hOD.below hBC.size (fun k hk => Nat.le_of_eq hk.symm))
  have F11 := Lib.hid (F6.out.trans (hb.mono F6.out.size))
  have F12 := Lib.hid (F7.out.below hb)
  have F13 := Lib.hid (F8.out.below hb F8.out.lt)
  clear F6 F7 F8
  have F14 := Lib.hid hD
  clear hC hBC hlC hD hOD hlD hb
  generalize w5.heap.size = g15 at *
  clear w9 w5
  refine takeL (.int .i64 0) rfl (by go_simp) ?_
  try simp only [Act.put, List.setIfInBounds_toArray, List.set_cons_succ, List.set_cons_zero]
  refine wpList_nil ?_
  repeat (first | (with_reducible refine stopR (id := 4) ?_) | go_values | go_skip | go_guarded | go_step | go_upon | go_back)
  refine Stop.mk (wp_region_lit ?_)
  refine takeL (.int .i64 0) rfl (by go_simp) ?_
  try simp only [Act.put, List.setIfInBounds_toArray, List.set_cons_succ, List.set_cons_zero]
  refine takeL (.bool false) rfl (by go_simp) ?_
  try simp only [Act.put, List.setIfInBounds_toArray, List.set_cons_succ, List.set_cons_zero]
  refine wpList_nil ?_
  have cell : ∀ (j : Nat) (x : Int), (b.sec n)[j]? = some x → w10.cell? ⟨g15, j, none⟩ = some (.int .u8 x) := fun j x hx => F14.out.cell (by rw [List.getElem?_map, hx]; rfl)
  have HCELL := Lib.hid cell
  clear cell
  have d0 := HCELL.out 0 _ HCH.out.1
  have d1 := HCELL.out 1 _ HCH.out.2
  have c0 := F13.out.c0
  rw [HK.out] at c0
  have c1 := F13.out.c1
  go_wp2_with fail
  go_loopg [7] 4 (fun q i wr => ∃ k : Nat, 4 - k ≤ q ∧ k ≤ 4 ∧ i = .int .i64 k ∧ w10 = wr)
  case atStart => exact ⟨0, by omega, by omega, rfl, rfl⟩
  case round =>
    obtain ⟨k, hg, hk, rfl, rfl⟩ := hrel
    rcases (show k = 0 ∨ k = 1 ∨ k = 2 ∨ k = 3 ∨ k = 4 by omega) with rfl | rfl | rfl | rfl | rfl
    · have d2 := HCELL.out 2 _ HCN.out.1
      skip
      go_wp2_with fail
      go_roundg (4 - 1)
      case measure => omega
      case rel => exact ⟨1, by omega, by omega, by go_num, rfl⟩
    · have d2 := HCELL.out 3 _ HCN.out.2.1
      skip
      go_wp2_with fail
      go_roundg (4 - 2)
      case measure => omega
      case rel => exact ⟨2, by omega, by omega, by go_num, rfl⟩
    · have d2 := HCELL.out 4 _ HCN.out.2.2.1
      skip
      go_wp2_with fail
      go_roundg (4 - 3)
      case measure => omega
      case rel => exact ⟨3, by omega, by omega, by go_num, rfl⟩
    · have d2 := HCELL.out 5 _ HCN.out.2.2.2
      rw [show n / 16777216 % 256 = n / 16777216 by omega] at d2
      go_wp2_with fail
      go_roundg (4 - 4)
      case measure => omega
      case rel => exact ⟨4, by omega, by omega, by go_num, rfl⟩
    · skip
      go_upto_region 17 with fail
      refine startH (fun wq => Below w10.heap.size w10 wq) (by kernel_rfl) ?_
      refine takeH 0 (some 73) (.slice (some ⟨g15, 6, none⟩) 32 58) rfl rfl (by kernel_rfl) (by kernel_rfl) (by kernel_rfl) (fun _ _ _ h => h) rfl (fun wq hS => by go_simp) (Below.refl _ _).drew ?_
      try simp only [Act.put, List.setIfInBounds_toArray, List.set_cons_succ, List.set_cons_zero]
      refine takeH 1 (some 74) (.pointer (some ⟨w.heap.size, 2, none⟩)) rfl rfl (by kernel_rfl) (by kernel_rfl) (by kernel_rfl) (fun _ _ _ h => h) rfl (fun wq hS => by go_simp) (Below.refl _ _).drew ?_
      try simp only [Act.put, List.setIfInBounds_toArray, List.set_cons_succ, List.set_cons_zero]
      refine takeH 2 (some 75) (.slice (some ⟨w.heap.size, 2, none⟩) 32 32) rfl rfl (by kernel_rfl) (by kernel_rfl) (by kernel_rfl) (fun _ _ _ h => h) rfl (fun wq hS => by go_simp) (Below.refl _ _).drew ?_
      try simp only [Act.put, List.setIfInBounds_toArray, List.set_cons_succ, List.set_cons_zero]
      refine oneH 3 (by kernel_rfl) rfl rfl fun K hK => ?_
      go_simp
      have hby1 := BytesAt.of_part (l := b.page) 6 58 F14.out HCL.out.1
      have hby2 : BytesAt w10 (.slice (some ⟨w.heap.size, 2, none⟩) b.page.length 32) b.page := ⟨_, 32, rfl, fun i x hx => ⟨w.heap.size, 2, rfl, F13.out.page_at i x hx⟩⟩
      rw [HWb.out.page] at hby1 hby2
      refine (bytes_any (hby1.below (Below.refl _ _).drew) (hby2.below (Below.refl _ _).drew) HWb.out.pages HWb.out.pages).mono ?_
      rintro e wK ⟨rfl, rfl⟩
      rw [show decide (b.page = b.page) = true by simp]
      refine hK _ _ (Below.refl _ _).drew ?_
      clear hK K hby1 hby2
      try simp only [Act.put, List.setIfInBounds_toArray, List.set_cons_succ, List.set_cons_zero]
      refine takeH 4 (some 77) (.bool false) rfl rfl (by kernel_rfl) (by kernel_rfl) (by kernel_rfl) (fun _ _ _ h => h) rfl (fun wq hS => by go_simp) (Below.refl _ _).drew ?_
      try simp only [Act.put, List.setIfInBounds_toArray, List.set_cons_succ, List.set_cons_zero]
      refine wpAnyH_done (by kernel_rfl) ?_ _
      have HCD := Lib.hid (fun (j : Nat) (x : Int) (hx : (b.sec n)[j]? = some x) => show w10.drew.cell? ⟨g15, j, none⟩ = some (.int .u8 x) from HCELL.out j x hx)
      go_wp2_with fail
      go_loopg [11] 64 (fun q i wr => ∃ k : Nat, 64 - k ≤ q ∧ 38 ≤ k ∧ k ≤ 64 ∧ i = .int .i64 k ∧ w10.drew = wr)
      case atStart => exact ⟨38, by omega, by omega, by omega, rfl, rfl⟩
      case round =>
        obtain ⟨k, hg, hke, hk, rfl, rfl⟩ := hrel
        have hk0 : (0 : Int) ≤ (k : Int) := by omega
        by_cases hlt : k < 64
        · have hk64 : (k : Int) < 64 := by omega
          have dz := HCD.out k _ (HCL.out.2 k hke hlt)
          go_wp2_with fail
          go_roundg (64 - (k + 1))
          case measure => omega
          case rel => exact ⟨k + 1, by omega, by omega, by omega, by go_num, rfl⟩
        · have hk8 : k = 64 := by omega
          subst hk8
          go_wp2_with fail
          refine (wakes_any _).mono ?_
          rintro e wK ⟨rfl, hb⟩
          have HF := Lib.hid (F11.out.drew.trans (hb.mono F11.out.drew.size))
          clear hb
          go_wp2_with fail
          go_ret
          exact ⟨rfl, HF.out⟩
set_option maxHeartbeats 4000000 in
set_option maxRecDepth 100000 in
theorem places_dlt (b : Bk) (sv : Value) (hb : b.Wf) (n : Int) (hn : 0 ≤ n ∧ n < 4294967296) (hl : b.bytes.length ≤ 300) (gb : b.good = true) (hk : b.kind = 2) (w : World) (hbs : BytesAt w sv b.bytes) : Calls Try.prog 6 #[.agg (b.arr sv), .int .u32 n] w fun e w' => e = .returned (.bool true) ∧ Below w.heap.size w w' := by
  have HWb := Lib.hid hb
  have HZb := Lib.hid (b.arr_size hb sv)
  have HXb := Lib.hid (sec_length hb n)
  have HSb : Hid ((u8s (b.sec n)).toArray.size = 64) := Lib.hid (by rw [u8s_size, HXb.out])
  have HNN := Lib.hid hn
  obtain ⟨ab, capb, hsvb⟩ := hbs.len
  have HSVb := Lib.hid hsvb
  have FYB := Lib.hid hbs
  have HBL : Hid (Below w.heap.size w w) := Lib.hid (Below.refl _ _)
  have hl1 : ¬ (300 : Int) < b.bytes.length := by omega
  have HGb := Lib.hid gb
  have HK := Lib.hid hk
  have hse := sec_good gb n
  have hcl := dlt_cells gb hk n
  have hcn := enc_num (b := b) n
  have hch := enc_head gb n
  rw [← hse] at hcl hcn hch
  rw [hk] at hch
  have HCL := Lib.hid hcl
  have HCN := Lib.hid hcn
  have HCH := Lib.hid hch
  obtain ⟨_, hi1, hi2⟩ := good_kind gb
  obtain ⟨⟨hbl1, hbl2⟩, ⟨ho1, ho2⟩, ⟨hp1, hp2⟩, _⟩ := good2 gb hk

  clear gb hk hse hcl hcn hch
  clear hb hbs hsvb
  obtain ⟨hn1, hn2⟩ := hn
  go_enter Try.func6, Try.ntmps6
  repeat (first | (with_reducible refine stopR (id := 0) ?_) | go_values | go_skip | go_guarded | go_step | go_upon | go_back)
  refine Stop.mk (wp_region_lit ?_)
  refine box_g rfl rfl ?_
  intro w1 hA hb hl
  try simp only [Act.put, List.setIfInBounds_toArray, List.set_cons_succ, List.set_cons_zero]
  clear hl
  have F2 := Lib.hid (HBL.out.trans (hb.mono HBL.out.size))
  have F3 := Lib.hid (FYB.out.below hb)
  clear HBL FYB
  have F4 := Lib.hid (show BAt _ _ b sv from ⟨hA, HWb.out⟩)
  clear hA hb
  refine takeL (.bool false) rfl (by go_simp) ?_
  try simp only [Act.put, List.setIfInBounds_toArray, List.set_cons_succ, List.set_cons_zero]
  refine wpList_nil ?_
  repeat (first | (with_reducible refine stopR (id := 1) ?_) | go_values | go_skip | go_guarded | go_step | go_upon | go_back)
  refine Stop.mk (wp_region_lit ?_)
  refine takeL (.pointer (some ⟨w.heap.size, 35, none⟩)) rfl (by go_simp) ?_
  try simp only [Act.put, List.setIfInBounds_toArray, List.set_cons_succ, List.set_cons_zero]
  refine takeL (.slice ab b.bytes.length capb) rfl (by have hq := F4.out.c35.trans (congrArg some HSVb.out); go_simp) ?_
  try simp only [Act.put, List.setIfInBounds_toArray, List.set_cons_succ, List.set_cons_zero]
  refine takeL (.int .i64 (b.bytes.length)) rfl (by go_simp) ?_
  try simp only [Act.put, List.setIfInBounds_toArray, List.set_cons_succ, List.set_cons_zero]
  refine takeL (.bool false) rfl (by go_simp) ?_
  try simp only [Act.put, List.setIfInBounds_toArray, List.set_cons_succ, List.set_cons_zero]
  refine wpList_nil ?_
  repeat (first | (with_reducible refine stopR (id := 3) ?_) | go_values | go_skip | go_guarded | go_step | go_upon | go_back)
  refine Stop.mk (wp_region_lit ?_)
  refine load27 (cs := (b.arr sv)) F4.out.all HZb.out rfl rfl ?_
  try simp only [Act.put, List.setIfInBounds_toArray, List.set_cons_succ, List.set_cons_zero]
  refine takeL (.int .u32 n) rfl (by go_simp) ?_
  try simp only [Act.put, List.setIfInBounds_toArray, List.set_cons_succ, List.set_cons_zero]
  refine wpList_op rfl fun K hK => ?_
  go_simp
  refine (encode_err (err_good HGb.out) sv n _ F3.out HWb.out HNN.out).mono ?_
  rintro e w5 ⟨rfl, hb⟩
  have F6 := Lib.hid (F2.out.trans (hb.mono F2.out.size))
  have F7 := Lib.hid (F3.out.below hb)
  have F8 := Lib.hid (F4.out.below hb F4.out.lt)
  clear F2 F3 F4
  clear hb
  refine hK _ _ ?_
  clear hK K
  try simp only [Act.put, List.setIfInBounds_toArray, List.set_cons_succ, List.set_cons_zero]
  refine takeL (.tuple #[.agg (u8s (b.sec n)).toArray, .int .i64 0]) rfl (by go_simp) ?_
  try simp only [Act.put, List.setIfInBounds_toArray, List.set_cons_succ, List.set_cons_zero]
  refine takeL (.agg (u8s (b.sec n)).toArray) rfl (by go_simp) ?_
  try simp only [Act.put, List.setIfInBounds_toArray, List.set_cons_succ, List.set_cons_zero]
  refine takeL (.int .i64 0) rfl (by go_simp) ?_
  try simp only [Act.put, List.setIfInBounds_toArray, List.set_cons_succ, List.set_cons_zero]
  refine alloc_g zero30 rfl ?_
  intro w9 hC hBC hlC
  try simp only [Act.put, List.setIfInBounds_toArray, List.set_cons_succ, List.set_cons_zero]
  refine store_all (cs := (u8s (b.sec n)).toArray) hC (by rw [HSb.out]; simp [zeros]) (by rw [HSb.out]; exact info30) (u8s_one _) rfl rfl rfl ?_
  intro w10 hD hOD hlD
  try simp only [Act.put, List.setIfInBounds_toArray, List.set_cons_succ, List.set_cons_zero]
  have hb := hBC.trans (hOD.below hBC.size (fun k hk => Nat.le_of_eq hk.symm))
  have F11 := Lib.hid (F6.out.trans (hb.mono F6.out.size))
  have F12 := Lib.hid (F7.out.below hb)
  have F13 := Lib.hid (F8.out.below hb F8.out.lt)
  clear F6 F7 F8
  have F14 := Lib.hid hD
  clear hC hBC hlC hD hOD hlD hb
  generalize w5.heap.size = g15 at *
  clear w9 w5
  refine takeL (.int .i64 0) rfl (by go_simp) ?_
  try simp only [Act.put, List.setIfInBounds_toArray, List.set_cons_succ, List.set_cons_zero]
  refine wpList_nil ?_
  repeat (first | (with_reducible refine stopR (id := 4) ?_) | go_values | go_skip | go_guarded | go_step | go_upon | go_back)
  refine Stop.mk (wp_region_lit ?_)
  refine takeL (.int .i64 0) rfl (by go_simp) ?_
  try simp only [Act.put, List.setIfInBounds_toArray, List.set_cons_succ, List.set_cons_zero]
  refine takeL (.bool false) rfl (by go_simp) ?_
  try simp only [Act.put, List.setIfInBounds_toArray, List.set_cons_succ, List.set_cons_zero]
  refine wpList_nil ?_
  have cell : ∀ (j : Nat) (x : Int), (b.sec n)[j]? = some x → w10.cell? ⟨g15, j, none⟩ = some (.int .u8 x) := fun j x hx => F14.out.cell (by rw [List.getElem?_map, hx]; rfl)
  have HCELL := Lib.hid cell
  clear cell
  have d0 := HCELL.out 0 _ HCH.out.1
  have d1 := HCELL.out 1 _ HCH.out.2
  have c0 := F13.out.c0
  rw [HK.out] at c0
  have c1 := F13.out.c1
  go_wp2_with fail
  go_loopg [7] 4 (fun q i wr => ∃ k : Nat, 4 - k ≤ q ∧ k ≤ 4 ∧ i = .int .i64 k ∧ w10 = wr)
  case atStart => exact ⟨0, by omega, by omega, rfl, rfl⟩
  case round =>
    obtain ⟨k, hg, hk, rfl, rfl⟩ := hrel
    rcases (show k = 0 ∨ k = 1 ∨ k = 2 ∨ k = 3 ∨ k = 4 by omega) with rfl | rfl | rfl | rfl | rfl
    · have d2 := HCELL.out 2 _ HCN.out.1
      skip
      go_wp2_with fail
      go_roundg (4 - 1)
      case measure => omega
      case rel => exact ⟨1, by omega, by omega, by go_num, rfl⟩
    · have d2 := HCELL.out 3 _ HCN.out.2.1
      skip
      go_wp2_with fail
      go_roundg (4 - 2)
      case measure => omega
      case rel => exact ⟨2, by omega, by omega, by go_num, rfl⟩
    · have d2 := HCELL.out 4 _ HCN.out.2.2.1
      skip
      go_wp2_with fail
      go_roundg (4 - 3)
      case measure => omega
      case rel => exact ⟨3, by omega, by omega, by go_num, rfl⟩
    · have d2 := HCELL.out 5 _ HCN.out.2.2.2
      rw [show n / 16777216 % 256 = n / 16777216 by omega] at d2
      go_wp2_with fail
      go_roundg (4 - 4)
      case measure => omega
      case rel => exact ⟨4, by omega, by omega, by go_num, rfl⟩
    · skip
      go_upto_region 21 with fail
      have FYS : Hid (BytesAt w10 (.slice ab b.bytes.length capb) b.bytes) := Lib.hid (by rw [← HSVb.out]; exact F12.out)
      refine startH (fun wq => Below w10.heap.size w10 wq) (by kernel_rfl) ?_
      refine takeH 0 (some 80) (.pointer (some ⟨g15, 6, none⟩)) rfl rfl (by kernel_rfl) (by kernel_rfl) (by kernel_rfl) (fun _ _ _ h => h) rfl (fun wq hS => by go_simp) (Below.refl _ _).drew ?_
      try simp only [Act.put, List.setIfInBounds_toArray, List.set_cons_succ, List.set_cons_zero]
      refine takeH 1 (some 81) (.int .u8 b.off) rfl rfl (by kernel_rfl) (by kernel_rfl) (by kernel_rfl) (fun _ _ _ h => h) rfl (fun wq hS => by have hq := (F14.out.below hS F14.out.lt).cell (i := 6) (v := .int .u8 b.off) (by rw [List.getElem?_map, HCL.out.1]; rfl); go_simp) (Below.refl _ _).drew ?_
      try simp only [Act.put, List.setIfInBounds_toArray, List.set_cons_succ, List.set_cons_zero]
      refine takeH 2 (some 82) (.int .i64 b.off) rfl rfl (by kernel_rfl) (by kernel_rfl) (by kernel_rfl) (fun _ _ _ h => h) rfl (fun wq hS => by go_simp; exact wrap64 (by omega) (by omega)) (Below.refl _ _).drew ?_
      try simp only [Act.put, List.setIfInBounds_toArray, List.set_cons_succ, List.set_cons_zero]
      refine takeH 3 (some 83) (.pointer (some ⟨w.heap.size, 34, none⟩)) rfl rfl (by kernel_rfl) (by kernel_rfl) (by kernel_rfl) (fun _ _ _ h => h) rfl (fun wq hS => by go_simp) (Below.refl _ _).drew ?_
      try simp only [Act.put, List.setIfInBounds_toArray, List.set_cons_succ, List.set_cons_zero]
      refine takeH 4 (some 84) (.int .i64 b.off) rfl rfl (by kernel_rfl) (by kernel_rfl) (by kernel_rfl) (fun _ _ _ h => h) rfl (fun wq hS => by have hq := (F13.out.below hS F13.out.lt).c34; go_simp) (Below.refl _ _).drew ?_
      try simp only [Act.put, List.setIfInBounds_toArray, List.set_cons_succ, List.set_cons_zero]
      refine takeH 5 (some 85) (.bool false) rfl rfl (by kernel_rfl) (by kernel_rfl) (by kernel_rfl) (fun _ _ _ h => h) rfl (fun wq hS => by go_simp) (Below.refl _ _).drew ?_
      try simp only [Act.put, List.setIfInBounds_toArray, List.set_cons_succ, List.set_cons_zero]
      refine takeH 6 (some 86) (.bool false) rfl rfl (by kernel_rfl) (by kernel_rfl) (by kernel_rfl) (fun _ _ _ h => h) rfl (fun wq hS => by go_simp) (Below.refl _ _).drew ?_
      try simp only [Act.put, List.setIfInBounds_toArray, List.set_cons_succ, List.set_cons_zero]
      refine takeH 7 (some 87) (.pointer (some ⟨g15, 7, none⟩)) rfl rfl (by kernel_rfl) (by kernel_rfl) (by kernel_rfl) (fun _ _ _ h => h) rfl (fun wq hS => by go_simp) (Below.refl _ _).drew ?_
      try simp only [Act.put, List.setIfInBounds_toArray, List.set_cons_succ, List.set_cons_zero]
      refine takeH 8 (some 88) (.int .u8 (b.bytes.length : Int)) rfl rfl (by kernel_rfl) (by kernel_rfl) (by kernel_rfl) (fun _ _ _ h => h) rfl (fun wq hS => by have hq := (F14.out.below hS F14.out.lt).cell (i := 7) (v := .int .u8 (b.bytes.length : Int)) (by rw [List.getElem?_map, HCL.out.2.1]; rfl); go_simp) (Below.refl _ _).drew ?_
      try simp only [Act.put, List.setIfInBounds_toArray, List.set_cons_succ, List.set_cons_zero]
      refine takeH 9 (some 89) (.int .i64 (b.bytes.length : Int)) rfl rfl (by kernel_rfl) (by kernel_rfl) (by kernel_rfl) (fun _ _ _ h => h) rfl (fun wq hS => by go_simp; exact wrap64 (by omega) (by omega)) (Below.refl _ _).drew ?_
      try simp only [Act.put, List.setIfInBounds_toArray, List.set_cons_succ, List.set_cons_zero]
      refine takeH 10 (some 90) (.pointer (some ⟨w.heap.size, 35, none⟩)) rfl rfl (by kernel_rfl) (by kernel_rfl) (by kernel_rfl) (fun _ _ _ h => h) rfl (fun wq hS => by go_simp) (Below.refl _ _).drew ?_
      try simp only [Act.put, List.setIfInBounds_toArray, List.set_cons_succ, List.set_cons_zero]
      refine takeH 11 (some 91) (.slice ab b.bytes.length capb) rfl rfl (by kernel_rfl) (by kernel_rfl) (by kernel_rfl) (fun _ _ _ h => h) rfl (fun wq hS => by have hq := (F13.out.below hS F13.out.lt).c35.trans (congrArg some HSVb.out); go_simp) (Below.refl _ _).drew ?_
      try simp only [Act.put, List.setIfInBounds_toArray, List.set_cons_succ, List.set_cons_zero]
      refine takeH 12 (some 92) (.int .i64 (b.bytes.length : Int)) rfl rfl (by kernel_rfl) (by kernel_rfl) (by kernel_rfl) (fun _ _ _ h => h) rfl (fun wq hS => by go_simp) (Below.refl _ _).drew ?_
      try simp only [Act.put, List.setIfInBounds_toArray, List.set_cons_succ, List.set_cons_zero]
      refine takeH 13 (some 93) (.bool false) rfl rfl (by kernel_rfl) (by kernel_rfl) (by kernel_rfl) (fun _ _ _ h => h) rfl (fun wq hS => by go_simp) (Below.refl _ _).drew ?_
      try simp only [Act.put, List.setIfInBounds_toArray, List.set_cons_succ, List.set_cons_zero]
      refine takeH 14 (some 94) (.bool false) rfl rfl (by kernel_rfl) (by kernel_rfl) (by kernel_rfl) (fun _ _ _ h => h) rfl (fun wq hS => by go_simp) (Below.refl _ _).drew ?_
      try simp only [Act.put, List.setIfInBounds_toArray, List.set_cons_succ, List.set_cons_zero]
      refine takeH 15 (some 95) (.bool false) rfl rfl (by kernel_rfl) (by kernel_rfl) (by kernel_rfl) (fun _ _ _ h => h) rfl (fun wq hS => by go_simp) (Below.refl _ _).drew ?_
      try simp only [Act.put, List.setIfInBounds_toArray, List.set_cons_succ, List.set_cons_zero]
      refine takeH 16 (some 96) (.pointer (some ⟨w.heap.size, 35, none⟩)) rfl rfl (by kernel_rfl) (by kernel_rfl) (by kernel_rfl) (fun _ _ _ h => h) rfl (fun wq hS => by go_simp) (Below.refl _ _).drew ?_
      try simp only [Act.put, List.setIfInBounds_toArray, List.set_cons_succ, List.set_cons_zero]
      refine takeH 17 (some 97) (.slice ab b.bytes.length capb) rfl rfl (by kernel_rfl) (by kernel_rfl) (by kernel_rfl) (fun _ _ _ h => h) rfl (fun wq hS => by have hq := (F13.out.below hS F13.out.lt).c35.trans (congrArg some HSVb.out); go_simp) (Below.refl _ _).drew ?_
      try simp only [Act.put, List.setIfInBounds_toArray, List.set_cons_succ, List.set_cons_zero]
      refine takeH 18 (some 98) (.int .i64 (b.bytes.length : Int)) rfl rfl (by kernel_rfl) (by kernel_rfl) (by kernel_rfl) (fun _ _ _ h => h) rfl (fun wq hS => by go_simp) (Below.refl _ _).drew ?_
      try simp only [Act.put, List.setIfInBounds_toArray, List.set_cons_succ, List.set_cons_zero]
      refine takeH 19 (some 99) (.int .i64 (8 + (b.bytes.length : Int))) rfl rfl (by kernel_rfl) (by kernel_rfl) (by kernel_rfl) (fun _ _ _ h => h) rfl (fun wq hS => by go_simp; exact wrap64 (by omega) (by omega)) (Below.refl _ _).drew ?_
      try simp only [Act.put, List.setIfInBounds_toArray, List.set_cons_succ, List.set_cons_zero]
      refine takeH 20 (some 100) (.slice (some ⟨g15, 8, none⟩) b.bytes.length 56) rfl rfl (by kernel_rfl) (by kernel_rfl) (by kernel_rfl) (fun _ _ _ h => h) rfl (fun wq hS => by exact exec_slice8 wq _ _ _ _ rfl g15 b.bytes.length rfl rfl rfl hbl2) (Below.refl _ _).drew ?_
      try simp only [Act.put, List.setIfInBounds_toArray, List.set_cons_succ, List.set_cons_zero]
      refine takeH 21 (some 101) (.pointer (some ⟨w.heap.size, 35, none⟩)) rfl rfl (by kernel_rfl) (by kernel_rfl) (by kernel_rfl) (fun _ _ _ h => h) rfl (fun wq hS => by go_simp) (Below.refl _ _).drew ?_
      try simp only [Act.put, List.setIfInBounds_toArray, List.set_cons_succ, List.set_cons_zero]
      refine takeH 22 (some 102) (.slice ab b.bytes.length capb) rfl rfl (by kernel_rfl) (by kernel_rfl) (by kernel_rfl) (fun _ _ _ h => h) rfl (fun wq hS => by have hq := (F13.out.below hS F13.out.lt).c35.trans (congrArg some HSVb.out); go_simp) (Below.refl _ _).drew ?_
      try simp only [Act.put, List.setIfInBounds_toArray, List.set_cons_succ, List.set_cons_zero]
      refine oneH 23 (by kernel_rfl) rfl rfl fun K hK => ?_
      go_simp
      refine (bytes_same ((BytesAt.of_part (l := b.bytes) 8 56 F14.out HCL.out.2.2.1).below (Below.refl _ _).drew) (FYS.out.below (Below.refl _ _).drew) HWb.out.bytess).mono ?_
      rintro e w16 ⟨rfl, rfl⟩
      refine hK _ _ (Below.refl _ _).drew ?_
      clear hK K
      try simp only [Act.put, List.setIfInBounds_toArray, List.set_cons_succ, List.set_cons_zero]
      refine takeH 24 (some 104) (.bool false) rfl rfl (by kernel_rfl) (by kernel_rfl) (by kernel_rfl) (fun _ _ _ h => h) rfl (fun wq hS => by go_simp) (Below.refl _ _).drew ?_
      try simp only [Act.put, List.setIfInBounds_toArray, List.set_cons_succ, List.set_cons_zero]
      refine takeH 25 (some 105) (.bool false) rfl rfl (by kernel_rfl) (by kernel_rfl) (by kernel_rfl) (fun _ _ _ h => h) rfl (fun wq hS => by go_simp) (Below.refl _ _).drew ?_
      try simp only [Act.put, List.setIfInBounds_toArray, List.set_cons_succ, List.set_cons_zero]
      refine takeH 26 (some 106) (.bool false) rfl rfl (by kernel_rfl) (by kernel_rfl) (by kernel_rfl) (fun _ _ _ h => h) rfl (fun wq hS => by go_simp) (Below.refl _ _).drew ?_
      try simp only [Act.put, List.setIfInBounds_toArray, List.set_cons_succ, List.set_cons_zero]
      refine takeH 27 (some 107) (.pointer (some ⟨g15, 24, none⟩)) rfl rfl (by kernel_rfl) (by kernel_rfl) (by kernel_rfl) (fun _ _ _ h => h) rfl (fun wq hS => by go_simp) (Below.refl _ _).drew ?_
      try simp only [Act.put, List.setIfInBounds_toArray, List.set_cons_succ, List.set_cons_zero]
      refine takeH 28 (some 108) (.int .u8 (b.prev % 256)) rfl rfl (by kernel_rfl) (by kernel_rfl) (by kernel_rfl) (fun _ _ _ h => h) rfl (fun wq hS => by have hq := (F14.out.below hS F14.out.lt).cell (i := 24) (v := .int .u8 (b.prev % 256)) (by rw [List.getElem?_map, HCL.out.2.2.2.2.1]; rfl); go_simp) (Below.refl _ _).drew ?_
      try simp only [Act.put, List.setIfInBounds_toArray, List.set_cons_succ, List.set_cons_zero]
      refine takeH 29 (some 109) (.int .i64 (b.prev % 256)) rfl rfl (by kernel_rfl) (by kernel_rfl) (by kernel_rfl) (fun _ _ _ h => h) rfl (fun wq hS => by go_simp; exact wrap64 (by omega) (by omega)) (Below.refl _ _).drew ?_
      try simp only [Act.put, List.setIfInBounds_toArray, List.set_cons_succ, List.set_cons_zero]
      refine takeH 30 (some 110) (.pointer (some ⟨g15, 25, none⟩)) rfl rfl (by kernel_rfl) (by kernel_rfl) (by kernel_rfl) (fun _ _ _ h => h) rfl (fun wq hS => by go_simp) (Below.refl _ _).drew ?_
      try simp only [Act.put, List.setIfInBounds_toArray, List.set_cons_succ, List.set_cons_zero]
      refine takeH 31 (some 111) (.int .u8 (b.prev / 256 % 256)) rfl rfl (by kernel_rfl) (by kernel_rfl) (by kernel_rfl) (fun _ _ _ h => h) rfl (fun wq hS => by have hq := (F14.out.below hS F14.out.lt).cell (i := 25) (v := .int .u8 (b.prev / 256 % 256)) (by rw [List.getElem?_map, HCL.out.2.2.2.2.2.1]; rfl); go_simp) (Below.refl _ _).drew ?_
      try simp only [Act.put, List.setIfInBounds_toArray, List.set_cons_succ, List.set_cons_zero]
      refine takeH 32 (some 112) (.int .i64 (b.prev / 256 % 256)) rfl rfl (by kernel_rfl) (by kernel_rfl) (by kernel_rfl) (fun _ _ _ h => h) rfl (fun wq hS => by go_simp; exact wrap64 (by omega) (by omega)) (Below.refl _ _).drew ?_
      try simp only [Act.put, List.setIfInBounds_toArray, List.set_cons_succ, List.set_cons_zero]
      refine takeH 33 (some 113) (.int .i64 (256 * (b.prev / 256 % 256))) rfl rfl (by kernel_rfl) (by kernel_rfl) (by kernel_rfl) (fun _ _ _ h => h) rfl (fun wq hS => by go_simp; exact wrap64 (by omega) (by omega)) (Below.refl _ _).drew ?_
      try simp only [Act.put, List.setIfInBounds_toArray, List.set_cons_succ, List.set_cons_zero]
      refine takeH 34 (some 114) (.int .i64 b.prev) rfl rfl (by kernel_rfl) (by kernel_rfl) (by kernel_rfl) (fun _ _ _ h => h) rfl (fun wq hS => by go_simp; rw [wrap64 (by omega) (by omega)]; omega) (Below.refl _ _).drew ?_
      try simp only [Act.put, List.setIfInBounds_toArray, List.set_cons_succ, List.set_cons_zero]
      refine takeH 35 (some 115) (.pointer (some ⟨w.heap.size, 36, none⟩)) rfl rfl (by kernel_rfl) (by kernel_rfl) (by kernel_rfl) (fun _ _ _ h => h) rfl (fun wq hS => by go_simp) (Below.refl _ _).drew ?_
      try simp only [Act.put, List.setIfInBounds_toArray, List.set_cons_succ, List.set_cons_zero]
      refine takeH 36 (some 116) (.int .i64 b.prev) rfl rfl (by kernel_rfl) (by kernel_rfl) (by kernel_rfl) (fun _ _ _ h => h) rfl (fun wq hS => by have hq := (F13.out.below hS F13.out.lt).c36; go_simp) (Below.refl _ _).drew ?_
      try simp only [Act.put, List.setIfInBounds_toArray, List.set_cons_succ, List.set_cons_zero]
      refine takeH 37 (some 117) (.bool false) rfl rfl (by kernel_rfl) (by kernel_rfl) (by kernel_rfl) (fun _ _ _ h => h) rfl (fun wq hS => by go_simp) (Below.refl _ _).drew ?_
      try simp only [Act.put, List.setIfInBounds_toArray, List.set_cons_succ, List.set_cons_zero]
      refine takeH 38 (some 118) (.bool false) rfl rfl (by kernel_rfl) (by kernel_rfl) (by kernel_rfl) (fun _ _ _ h => h) rfl (fun wq hS => by go_simp) (Below.refl _ _).drew ?_
      try simp only [Act.put, List.setIfInBounds_toArray, List.set_cons_succ, List.set_cons_zero]
      refine wpAnyH_done (by kernel_rfl) ?_ _
      have HCD := Lib.hid (fun (j : Nat) (x : Int) (hx : (b.sec n)[j]? = some x) => show w10.drew.cell? ⟨g15, j, none⟩ = some (.int .u8 x) from HCELL.out j x hx)
      have c35 : w10.drew.cell? ⟨w.heap.size, 35, none⟩ = some (.slice ab b.bytes.length capb) := (F13.out.c35).trans (congrArg some HSVb.out)
      go_wp2_with fail
      go_loopg [9] 24 (fun q i wr => ∃ k : Nat, 24 - k ≤ q ∧ 8 + b.bytes.length ≤ k ∧ k ≤ 24 ∧ i = .int .i64 k ∧ w10.drew = wr)
      case atStart => exact ⟨8 + b.bytes.length, by omega, by omega, by omega, by go_num, rfl⟩
      case round =>
        obtain ⟨k, hg2, hke, hk, rfl, rfl⟩ := hrel
        have hk0 : (0 : Int) ≤ (k : Int) := by omega
        by_cases hlt : k < 24
        · have hk64 : (k : Int) < 24 := by omega
          have dz := HCD.out k _ (HCL.out.2.2.2.1 k hke hlt)
          go_wp2_with fail
          go_roundg (24 - (k + 1))
          case measure => omega
          case rel => exact ⟨k + 1, by omega, by omega, by omega, by go_num, rfl⟩
        · have hk8 : k = 24 := by omega
          subst hk8
          go_wp2_with fail
          go_loopg [11] 64 (fun q i wr => ∃ k : Nat, 64 - k ≤ q ∧ 26 ≤ k ∧ k ≤ 64 ∧ i = .int .i64 k ∧ w10.drew = wr)
          case atStart => exact ⟨26, by omega, by omega, by omega, rfl, rfl⟩
          case round =>
            obtain ⟨k, hg, hke, hk, rfl, rfl⟩ := hrel
            have hk0 : (0 : Int) ≤ (k : Int) := by omega
            by_cases hlt : k < 64
            · have hk64 : (k : Int) < 64 := by omega
              have dz := HCD.out k _ (HCL.out.2.2.2.2.2.2 k hke hlt)
              go_wp2_with fail
              go_roundg (64 - (k + 1))
              case measure => omega
              case rel => exact ⟨k + 1, by omega, by omega, by omega, by go_num, rfl⟩
            · have hk8 : k = 64 := by omega
              subst hk8
              go_wp2_with fail
              refine (wakes_any _).mono ?_
              rintro e wK ⟨rfl, hb⟩
              have HF := Lib.hid (F11.out.drew.trans (hb.mono F11.out.drew.size))
              clear hb
              go_wp2_with fail
              go_ret
              exact ⟨rfl, HF.out⟩
set_option maxHeartbeats 4000000 in
set_option maxRecDepth 100000 in
theorem places_map (b : Bk) (sv : Value) (hb : b.Wf) (n : Int) (hn : 0 ≤ n ∧ n < 4294967296) (hl : b.bytes.length ≤ 300) (gb : b.good = true) (hk : b.kind = 3) (w : World) (hbs : BytesAt w sv b.bytes) : Calls Try.prog 6 #[.agg (b.arr sv), .int .u32 n] w fun e w' => e = .returned (.bool true) ∧ Below w.heap.size w w' := by
  have HWb := Lib.hid hb
  have HZb := Lib.hid (b.arr_size hb sv)
  have HXb := Lib.hid (sec_length hb n)
  have HSb : Hid ((u8s (b.sec n)).toArray.size = 64) := Lib.hid (by rw [u8s_size, HXb.out])
  have HNN := Lib.hid hn
  obtain ⟨ab, capb, hsvb⟩ := hbs.len
  have HSVb := Lib.hid hsvb
  have FYB := Lib.hid hbs
  have HBL : Hid (Below w.heap.size w w) := Lib.hid (Below.refl _ _)
  have hl1 : ¬ (300 : Int) < b.bytes.length := by omega
  have HGb := Lib.hid gb
  have HK := Lib.hid hk
  have hse := sec_good gb n
  have hcl := map_cells hb hk n
  have hcn := enc_num (b := b) n
  have hch := enc_head gb n
  rw [← hse] at hcl hcn hch
  rw [hk] at hch
  have HCL := Lib.hid hcl
  have HCN := Lib.hid hcn
  have HCH := Lib.hid hch
  obtain ⟨_, hi1, hi2⟩ := good_kind gb

  have HHD := Lib.hid (good3 gb hk).1
  clear gb hk hse hcl hcn hch
  clear hb hbs hsvb
  obtain ⟨hn1, hn2⟩ := hn
  go_enter Try.func6, Try.ntmps6
  repeat (first | (with_reducible refine stopR (id := 0) ?_) | go_values | go_skip | go_guarded | go_step | go_upon | go_back)
  refine Stop.mk (wp_region_lit ?_)
  refine box_g rfl rfl ?_
  intro w1 hA hb hl
  try simp only [Act.put, List.setIfInBounds_toArray, List.set_cons_succ, List.set_cons_zero]
  clear hl
  have F2 := Lib.hid (HBL.out.trans (hb.mono HBL.out.size))
  have F3 := Lib.hid (FYB.out.below hb)
  clear HBL FYB
  have F4 := Lib.hid (show BAt _ _ b sv from ⟨hA, HWb.out⟩)
  clear hA hb
  refine takeL (.bool false) rfl (by go_simp) ?_
  try simp only [Act.put, List.setIfInBounds_toArray, List.set_cons_succ, List.set_cons_zero]
  refine wpList_nil ?_
  repeat (first | (with_reducible refine stopR (id := 1) ?_) | go_values | go_skip | go_guarded | go_step | go_upon | go_back)
  refine Stop.mk (wp_region_lit ?_)
  refine takeL (.pointer (some ⟨w.heap.size, 35, none⟩)) rfl (by go_simp) ?_
  try simp only [Act.put, List.setIfInBounds_toArray, List.set_cons_succ, List.set_cons_zero]
  refine takeL (.slice ab b.bytes.length capb) rfl (by have hq := F4.out.c35.trans (congrArg some HSVb.out); go_simp) ?_
  try simp only [Act.put, List.setIfInBounds_toArray, List.set_cons_succ, List.set_cons_zero]
  refine takeL (.int .i64 (b.bytes.length)) rfl (by go_simp) ?_
  try simp only [Act.put, List.setIfInBounds_toArray, List.set_cons_succ, List.set_cons_zero]
  refine takeL (.bool false) rfl (by go_simp) ?_
  try simp only [Act.put, List.setIfInBounds_toArray, List.set_cons_succ, List.set_cons_zero]
  refine wpList_nil ?_
  repeat (first | (with_reducible refine stopR (id := 3) ?_) | go_values | go_skip | go_guarded | go_step | go_upon | go_back)
  refine Stop.mk (wp_region_lit ?_)
  refine load27 (cs := (b.arr sv)) F4.out.all HZb.out rfl rfl ?_
  try simp only [Act.put, List.setIfInBounds_toArray, List.set_cons_succ, List.set_cons_zero]
  refine takeL (.int .u32 n) rfl (by go_simp) ?_
  try simp only [Act.put, List.setIfInBounds_toArray, List.set_cons_succ, List.set_cons_zero]
  refine wpList_op rfl fun K hK => ?_
  go_simp
  refine (encode_err (err_good HGb.out) sv n _ F3.out HWb.out HNN.out).mono ?_
  rintro e w5 ⟨rfl, hb⟩
  have F6 := Lib.hid (F2.out.trans (hb.mono F2.out.size))
  have F7 := Lib.hid (F3.out.below hb)
  have F8 := Lib.hid (F4.out.below hb F4.out.lt)
  clear F2 F3 F4
  clear hb
  refine hK _ _ ?_
  clear hK K
  try simp only [Act.put, List.setIfInBounds_toArray, List.set_cons_succ, List.set_cons_zero]
  refine takeL (.tuple #[.agg (u8s (b.sec n)).toArray, .int .i64 0]) rfl (by go_simp) ?_
  try simp only [Act.put, List.setIfInBounds_toArray, List.set_cons_succ, List.set_cons_zero]
  refine takeL (.agg (u8s (b.sec n)).toArray) rfl (by go_simp) ?_
  try simp only [Act.put, List.setIfInBounds_toArray, List.set_cons_succ, List.set_cons_zero]
  refine takeL (.int .i64 0) rfl (by go_simp) ?_
  try simp only [Act.put, List.setIfInBounds_toArray, List.set_cons_succ, List.set_cons_zero]
  refine alloc_g zero30 rfl ?_
  intro w9 hC hBC hlC
  try simp only [Act.put, List.setIfInBounds_toArray, List.set_cons_succ, List.set_cons_zero]
  refine store_all (cs := (u8s (b.sec n)).toArray) hC (by rw [HSb.out]; simp [zeros]) (by rw [HSb.out]; exact info30) (u8s_one _) rfl rfl rfl ?_
  intro w10 hD hOD hlD
  try simp only [Act.put, List.setIfInBounds_toArray, List.set_cons_succ, List.set_cons_zero]
  have hb := hBC.trans (hOD.below hBC.size (fun k hk => Nat.le_of_eq hk.symm))
  have F11 := Lib.hid (F6.out.trans (hb.mono F6.out.size))
  have F12 := Lib.hid (F7.out.below hb)
  have F13 := Lib.hid (F8.out.below hb F8.out.lt)
  clear F6 F7 F8
  have F14 := Lib.hid hD
  clear hC hBC hlC hD hOD hlD hb
  generalize w5.heap.size = g15 at *
  clear w9 w5
  refine takeL (.int .i64 0) rfl (by go_simp) ?_
  try simp only [Act.put, List.setIfInBounds_toArray, List.set_cons_succ, List.set_cons_zero]
  refine wpList_nil ?_
  repeat (first | (with_reducible refine stopR (id := 4) ?_) | go_values | go_skip | go_guarded | go_step | go_upon | go_back)
  refine Stop.mk (wp_region_lit ?_)
  refine takeL (.int .i64 0) rfl (by go_simp) ?_
  try simp only [Act.put, List.setIfInBounds_toArray, List.set_cons_succ, List.set_cons_zero]
  refine takeL (.bool false) rfl (by go_simp) ?_
  try simp only [Act.put, List.setIfInBounds_toArray, List.set_cons_succ, List.set_cons_zero]
  refine wpList_nil ?_
  have cell : ∀ (j : Nat) (x : Int), (b.sec n)[j]? = some x → w10.cell? ⟨g15, j, none⟩ = some (.int .u8 x) := fun j x hx => F14.out.cell (by rw [List.getElem?_map, hx]; rfl)
  have HCELL := Lib.hid cell
  clear cell
  have d0 := HCELL.out 0 _ HCH.out.1
  have d1 := HCELL.out 1 _ HCH.out.2
  have c0 := F13.out.c0
  rw [HK.out] at c0
  have c1 := F13.out.c1
  go_wp2_with fail
  go_loopg [7] 4 (fun q i wr => ∃ k : Nat, 4 - k ≤ q ∧ k ≤ 4 ∧ i = .int .i64 k ∧ w10 = wr)
  case atStart => exact ⟨0, by omega, by omega, rfl, rfl⟩
  case round =>
    obtain ⟨k, hg, hk, rfl, rfl⟩ := hrel
    rcases (show k = 0 ∨ k = 1 ∨ k = 2 ∨ k = 3 ∨ k = 4 by omega) with rfl | rfl | rfl | rfl | rfl
    · have d2 := HCELL.out 2 _ HCN.out.1
      skip
      go_wp2_with fail
      go_roundg (4 - 1)
      case measure => omega
      case rel => exact ⟨1, by omega, by omega, by go_num, rfl⟩
    · have d2 := HCELL.out 3 _ HCN.out.2.1
      skip
      go_wp2_with fail
      go_roundg (4 - 2)
      case measure => omega
      case rel => exact ⟨2, by omega, by omega, by go_num, rfl⟩
    · have d2 := HCELL.out 4 _ HCN.out.2.2.1
      skip
      go_wp2_with fail
      go_roundg (4 - 3)
      case measure => omega
      case rel => exact ⟨3, by omega, by omega, by go_num, rfl⟩
    · have d2 := HCELL.out 5 _ HCN.out.2.2.2
      rw [show n / 16777216 % 256 = n / 16777216 by omega] at d2
      go_wp2_with fail
      go_roundg (4 - 4)
      case measure => omega
      case rel => exact ⟨4, by omega, by omega, by go_num, rfl⟩
    · skip
      go_wp2_with fail
      go_loopg [10] 8 (fun q i wr => ∃ k : Nat, 8 - k ≤ q ∧ k ≤ 8 ∧ i = .int .i64 k ∧ Below w10.heap.size w10 wr)
      case atStart => exact ⟨0, by omega, by omega, rfl, Below.refl _ _⟩
      case round =>
        obtain ⟨k, hg2, hk, rfl, hbel⟩ := hrel
        have hk0 : (0 : Int) ≤ (k : Int) := by omega
        by_cases hlt : k < 8
        · have hk64 : (k : Int) < 8 := by omega
          obtain ⟨x, hx⟩ : ∃ x, b.heads[k]? = some x := ⟨_, List.getElem?_eq_getElem (by rw [HWb.out.heads]; exact hlt)⟩
          obtain ⟨hx1, hx2⟩ := HHD.out x (List.mem_of_getElem? hx)
          have HX := Lib.hid hx
          have HXC := Lib.hid (HCL.out.1 k x hx)
          clear hx
          obtain ⟨p, hp⟩ : ∃ p : Nat, p = 6 + 2 * k := ⟨_, rfl⟩
          obtain ⟨q2, hq2⟩ : ∃ q : Nat, q = 7 + 2 * k := ⟨_, rfl⟩
          rw [← hp, ← hq2] at HXC
          have hp0 : (0 : Int) ≤ (p : Int) := by omega
          have hp64 : (p : Int) < 64 := by omega
          have hq0 : (0 : Int) ≤ (q2 : Int) := by omega
          have hq64 : (q2 : Int) < 64 := by omega
          have HP := Lib.hid hp
          have HQ2 := Lib.hid hq2
          clear hp hq2
          have F16 := Lib.hid (F11.out.trans (hbel.mono F11.out.size))
          have F17 := Lib.hid (F12.out.below hbel)
          have F18 := Lib.hid (F13.out.below hbel F13.out.lt)
          have F19 := Lib.hid (F14.out.below hbel F14.out.lt)
          have hbel2 := Lib.hid hbel
          clear hbel
          go_upto_region 33 with fail
          refine startH (fun wq => Below wr.heap.size wr wq) (by kernel_rfl) ?_
          refine takeH 0 (some 137) (.int .i64 (k : Int)) rfl rfl (by kernel_rfl) (by kernel_rfl) (by kernel_rfl) (fun _ _ _ h => h) rfl (fun wq hS => by go_simp) (Below.refl _ _).drew ?_
          try simp only [Act.put, List.setIfInBounds_toArray, List.set_cons_succ, List.set_cons_zero]
          refine takeH 1 (some 138) (.int .i64 (2 * (k : Int))) rfl rfl (by kernel_rfl) (by kernel_rfl) (by kernel_rfl) (fun _ _ _ h => h) rfl (fun wq hS => by go_simp; exact wrap64 (by omega) (by omega)) (Below.refl _ _).drew ?_
          try simp only [Act.put, List.setIfInBounds_toArray, List.set_cons_succ, List.set_cons_zero]
          refine takeH 2 (some 139) (.int .i64 (p : Int)) rfl rfl (by kernel_rfl) (by kernel_rfl) (by kernel_rfl) (fun _ _ _ h => h) rfl (fun wq hS => by have hq := HP.out; go_simp; (rw [wrap64 (by omega) (by omega)] <;> omega)) (Below.refl _ _).drew ?_
          try simp only [Act.put, List.setIfInBounds_toArray, List.set_cons_succ, List.set_cons_zero]
          refine takeH 3 (some 140) (.pointer (some ⟨g15, p, none⟩)) rfl rfl (by kernel_rfl) (by kernel_rfl) (by kernel_rfl) (fun _ _ _ h => h) rfl (fun wq hS => by go_simp) (Below.refl _ _).drew ?_
          try simp only [Act.put, List.setIfInBounds_toArray, List.set_cons_succ, List.set_cons_zero]
          refine takeH 4 (some 141) (.int .u8 (x % 256)) rfl rfl (by kernel_rfl) (by kernel_rfl) (by kernel_rfl) (fun _ _ _ h => h) rfl (fun wq hS => by have hq := (F19.out.below hS F19.out.lt).cell (i := p) (v := .int .u8 (x % 256)) (by rw [List.getElem?_map, HXC.out.1]; rfl); go_simp) (Below.refl _ _).drew ?_
          try simp only [Act.put, List.setIfInBounds_toArray, List.set_cons_succ, List.set_cons_zero]
          refine takeH 5 (some 142) (.int .i64 (x % 256)) rfl rfl (by kernel_rfl) (by kernel_rfl) (by kernel_rfl) (fun _ _ _ h => h) rfl (fun wq hS => by go_simp; exact wrap64 (by omega) (by omega)) (Below.refl _ _).drew ?_
          try simp only [Act.put, List.setIfInBounds_toArray, List.set_cons_succ, List.set_cons_zero]
          refine takeH 6 (some 143) (.int .i64 (k : Int)) rfl rfl (by kernel_rfl) (by kernel_rfl) (by kernel_rfl) (fun _ _ _ h => h) rfl (fun wq hS => by go_simp) (Below.refl _ _).drew ?_
          try simp only [Act.put, List.setIfInBounds_toArray, List.set_cons_succ, List.set_cons_zero]
          refine takeH 7 (some 144) (.int .i64 (2 * (k : Int))) rfl rfl (by kernel_rfl) (by kernel_rfl) (by kernel_rfl) (fun _ _ _ h => h) rfl (fun wq hS => by go_simp; exact wrap64 (by omega) (by omega)) (Below.refl _ _).drew ?_
          try simp only [Act.put, List.setIfInBounds_toArray, List.set_cons_succ, List.set_cons_zero]
          refine takeH 8 (some 145) (.int .i64 (q2 : Int)) rfl rfl (by kernel_rfl) (by kernel_rfl) (by kernel_rfl) (fun _ _ _ h => h) rfl (fun wq hS => by have hq := HQ2.out; go_simp; (rw [wrap64 (by omega) (by omega)] <;> omega)) (Below.refl _ _).drew ?_
          try simp only [Act.put, List.setIfInBounds_toArray, List.set_cons_succ, List.set_cons_zero]
          refine takeH 9 (some 146) (.pointer (some ⟨g15, q2, none⟩)) rfl rfl (by kernel_rfl) (by kernel_rfl) (by kernel_rfl) (fun _ _ _ h => h) rfl (fun wq hS => by go_simp) (Below.refl _ _).drew ?_
          try simp only [Act.put, List.setIfInBounds_toArray, List.set_cons_succ, List.set_cons_zero]
          refine takeH 10 (some 147) (.int .u8 (x / 256 % 256)) rfl rfl (by kernel_rfl) (by kernel_rfl) (by kernel_rfl) (fun _ _ _ h => h) rfl (fun wq hS => by have hq := (F19.out.below hS F19.out.lt).cell (i := q2) (v := .int .u8 (x / 256 % 256)) (by rw [List.getElem?_map, HXC.out.2]; rfl); go_simp) (Below.refl _ _).drew ?_
          try simp only [Act.put, List.setIfInBounds_toArray, List.set_cons_succ, List.set_cons_zero]
          refine takeH 11 (some 148) (.int .i64 (x / 256 % 256)) rfl rfl (by kernel_rfl) (by kernel_rfl) (by kernel_rfl) (fun _ _ _ h => h) rfl (fun wq hS => by go_simp; exact wrap64 (by omega) (by omega)) (Below.refl _ _).drew ?_
          try simp only [Act.put, List.setIfInBounds_toArray, List.set_cons_succ, List.set_cons_zero]
          refine takeH 12 (some 149) (.int .i64 (256 * (x / 256 % 256))) rfl rfl (by kernel_rfl) (by kernel_rfl) (by kernel_rfl) (fun _ _ _ h => h) rfl (fun wq hS => by go_simp; exact wrap64 (by omega) (by omega)) (Below.refl _ _).drew ?_
          try simp only [Act.put, List.setIfInBounds_toArray, List.set_cons_succ, List.set_cons_zero]
          refine takeH 13 (some 150) (.int .i64 x) rfl rfl (by kernel_rfl) (by kernel_rfl) (by kernel_rfl) (fun _ _ _ h => h) rfl (fun wq hS => by go_simp; rw [wrap64 (by omega) (by omega)]; omega) (Below.refl _ _).drew ?_
          try simp only [Act.put, List.setIfInBounds_toArray, List.set_cons_succ, List.set_cons_zero]
          refine takeH 14 (some 151) (.int .i64 (k : Int)) rfl rfl (by kernel_rfl) (by kernel_rfl) (by kernel_rfl) (fun _ _ _ h => h) rfl (fun wq hS => by go_simp) (Below.refl _ _).drew ?_
          try simp only [Act.put, List.setIfInBounds_toArray, List.set_cons_succ, List.set_cons_zero]
          refine takeH 15 (some 152) (.pointer (some ⟨w.heap.size, 37, none⟩)) rfl rfl (by kernel_rfl) (by kernel_rfl) (by kernel_rfl) (fun _ _ _ h => h) rfl (fun wq hS => by go_simp) (Below.refl _ _).drew ?_
          try simp only [Act.put, List.setIfInBounds_toArray, List.set_cons_succ, List.set_cons_zero]
          refine takeH 16 (some 153) (.pointer (some ⟨w.heap.size, 37 + k, none⟩)) rfl rfl (by kernel_rfl) (by kernel_rfl) (by kernel_rfl) (fun _ _ _ h => h) rfl (fun wq hS => by go_simp) (Below.refl _ _).drew ?_
          try simp only [Act.put, List.setIfInBounds_toArray, List.set_cons_succ, List.set_cons_zero]
          refine takeH 17 (some 154) (.int .i64 x) rfl rfl (by kernel_rfl) (by kernel_rfl) (by kernel_rfl) (fun _ _ _ h => h) rfl (fun wq hS => by have hq := (F18.out.below hS F18.out.lt).blk.cell (i := 37 + k) (v := .int .i64 x) (by rw [b.atH HWb.out sv k, List.getElem?_map, HX.out]; rfl); go_simp) (Below.refl _ _).drew ?_
          try simp only [Act.put, List.setIfInBounds_toArray, List.set_cons_succ, List.set_cons_zero]
          refine takeH 18 (some 155) (.bool false) rfl rfl (by kernel_rfl) (by kernel_rfl) (by kernel_rfl) (fun _ _ _ h => h) rfl (fun wq hS => by go_simp) (Below.refl _ _).drew ?_
          try simp only [Act.put, List.setIfInBounds_toArray, List.set_cons_succ, List.set_cons_zero]
          refine wpAnyH_done (by kernel_rfl) ?_ _
          go_wp2_with fail
          go_roundg (8 - (k + 1))
          case measure => omega
          case rel => exact ⟨k + 1, by omega, by omega, by go_num, hbel2.out.drew⟩
        · have hk8 : k = 8 := by omega
          subst hk8
          have HCD := Lib.hid (fun (j : Nat) (x : Int) (hx : (b.sec n)[j]? = some x) => show wr.cell? ⟨g15, j, none⟩ = some (.int .u8 x) from (F14.out.below hbel F14.out.lt).cell (by rw [List.getElem?_map, hx]; rfl))
          have HBF := Lib.hid (F11.out.trans (hbel.mono F11.out.size))
          clear hbel
          go_wp2_with fail
          go_loopg [11] 64 (fun q i wq => ∃ k : Nat, 64 - k ≤ q ∧ 22 ≤ k ∧ k ≤ 64 ∧ i = .int .i64 k ∧ wr = wq)
          case atStart => exact ⟨22, by omega, by omega, by omega, rfl, rfl⟩
          case round =>
            obtain ⟨k, hg, hke, hk, rfl, rfl⟩ := hrel
            have hk0 : (0 : Int) ≤ (k : Int) := by omega
            by_cases hlt : k < 64
            · have hk64 : (k : Int) < 64 := by omega
              have dz := HCD.out k _ (HCL.out.2 k hke hlt)
              go_wp2_with fail
              go_roundg (64 - (k + 1))
              case measure => omega
              case rel => exact ⟨k + 1, by omega, by omega, by omega, by go_num, rfl⟩
            · have hk8 : k = 64 := by omega
              subst hk8
              go_wp2_with fail
              refine (wakes_any _).mono ?_
              rintro e wK ⟨rfl, hb⟩
              have HF := Lib.hid (HBF.out.trans (hb.mono HBF.out.size))
              clear hb
              go_wp2_with fail
              go_ret
              exact ⟨rfl, HF.out⟩
theorem places_any (b : Bk) (sv : Value) (hb : b.Wf) (n : Int) (hn : 0 ≤ n ∧ n < 4294967296) (w : World) (hbs : BytesAt w sv b.bytes) : Calls Try.prog 6 #[.agg (b.arr sv), .int .u32 n] w fun e w' => e = .returned (.bool true) ∧ Below w.heap.size w w' := by
  by_cases h1 : b.bytes.length ≤ 300
  · cases gb : b.good
    · exact places_bad b sv hb n hn h1 gb w hbs
    · rcases (good_kind gb).1 with k | k | k
      · exact places_img b sv hb n hn h1 gb k w hbs
      · exact places_dlt b sv hb n hn h1 gb k w hbs
      · exact places_map b sv hb n hn h1 gb k w hbs
  · exact places_long b sv hb n hn (by omega) w hbs
end Go.Proofs.Ytdgciecnnpjeoaa
