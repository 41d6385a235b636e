/- The statements' own difference of two pages, and their own bytes laid over a page; two lists of bytes compared. -/
import Derived.Test.YtdfkpjffmjeffaaDoorWakes
import Derived.Laws.BytesArg
namespace Go.Proofs.YtdfkpjffmjeffaaDoor
set_option linter.unusedSimpArgs false
set_option linter.unusedVariables false
open Go.RowKit

theorem list32 {l : List Int} (h : l.length = 32) : ∃ x0 x1 x2 x3 x4 x5 x6 x7 x8 x9 x10 x11 x12 x13 x14 x15 x16 x17 x18 x19 x20 x21 x22 x23 x24 x25 x26 x27 x28 x29 x30 x31 : Int, l = [x0, x1, x2, x3, x4, x5, x6, x7, x8, x9, x10, x11, x12, x13, x14, x15, x16, x17, x18, x19, x20, x21, x22, x23, x24, x25, x26, x27, x28, x29, x30, x31] := by
  match l, h with
  | [x0, x1, x2, x3, x4, x5, x6, x7, x8, x9, x10, x11, x12, x13, x14, x15, x16, x17, x18, x19, x20, x21, x22, x23, x24, x25, x26, x27, x28, x29, x30, x31], _ => exact ⟨x0, x1, x2, x3, x4, x5, x6, x7, x8, x9, x10, x11, x12, x13, x14, x15, x16, x17, x18, x19, x20, x21, x22, x23, x24, x25, x26, x27, x28, x29, x30, x31, rfl⟩
set_option maxRecDepth 100000 in
theorem built37_32 (x0 x1 x2 x3 x4 x5 x6 x7 x8 x9 x10 x11 x12 x13 x14 x15 x16 x17 x18 x19 x20 x21 x22 x23 x24 x25 x26 x27 x28 x29 x30 x31 : Int) (v : Bool) : Tryd.prog.built 37 [(0, .agg #[.int .u8 x0, .int .u8 x1, .int .u8 x2, .int .u8 x3, .int .u8 x4, .int .u8 x5, .int .u8 x6, .int .u8 x7, .int .u8 x8, .int .u8 x9, .int .u8 x10, .int .u8 x11, .int .u8 x12, .int .u8 x13, .int .u8 x14, .int .u8 x15, .int .u8 x16, .int .u8 x17, .int .u8 x18, .int .u8 x19, .int .u8 x20, .int .u8 x21, .int .u8 x22, .int .u8 x23, .int .u8 x24, .int .u8 x25, .int .u8 x26, .int .u8 x27, .int .u8 x28, .int .u8 x29, .int .u8 x30, .int .u8 x31]), (1, .bool v)] = some #[.int .u8 x0, .int .u8 x1, .int .u8 x2, .int .u8 x3, .int .u8 x4, .int .u8 x5, .int .u8 x6, .int .u8 x7, .int .u8 x8, .int .u8 x9, .int .u8 x10, .int .u8 x11, .int .u8 x12, .int .u8 x13, .int .u8 x14, .int .u8 x15, .int .u8 x16, .int .u8 x17, .int .u8 x18, .int .u8 x19, .int .u8 x20, .int .u8 x21, .int .u8 x22, .int .u8 x23, .int .u8 x24, .int .u8 x25, .int .u8 x26, .int .u8 x27, .int .u8 x28, .int .u8 x29, .int .u8 x30, .int .u8 x31, .bool v] := by kernel_rfl
set_option maxRecDepth 100000 in
theorem built37 {l : List Int} (h : l.length = 32) (v : Bool) : Tryd.prog.built 37 [(0, .agg (u8s l).toArray), (1, .bool v)] = some (u8s l ++ [Value.bool v]).toArray := by
  obtain ⟨x0, x1, x2, x3, x4, x5, x6, x7, x8, x9, x10, x11, x12, x13, x14, x15, x16, x17, x18, x19, x20, x21, x22, x23, x24, x25, x26, x27, x28, x29, x30, x31, rfl⟩ := list32 h
  exact built37_32 x0 x1 x2 x3 x4 x5 x6 x7 x8 x9 x10 x11 x12 x13 x14 x15 x16 x17 x18 x19 x20 x21 x22 x23 x24 x25 x26 x27 x28 x29 x30 x31 v
theorem info31 : (Tryd.prog.info? 31).map (·.size) = some 3 := by kernel_rfl
theorem info37 : (Tryd.prog.info? 37).map (·.size) = some 33 := by kernel_rfl
theorem zero31 : (Tryd.prog.info? 31).bind (·.zero) = some (.agg #[.int .i64 0, .slice none 0 0, .bool false]) := by kernel_rfl
theorem zero37 : (Tryd.prog.info? 37).bind (·.zero) = some (.agg (u8s (zeros 32) ++ [Value.bool false]).toArray) := by kernel_rfl
theorem built37n : Tryd.prog.built 37 [] = some (u8s (zeros 32) ++ [Value.bool false]).toArray := by kernel_rfl
theorem build37n (w : World) : (Instr.build 37 #[]).run Tryd.prog w = .ok (.agg (u8s (zeros 32) ++ [Value.bool false]).toArray) w := run_build w 37 _ _ built37n
theorem built31n : Tryd.prog.built 31 [] = some #[.int .i64 0, .slice none 0 0, .bool false] := by kernel_rfl
theorem build31n (w : World) : (Instr.build 31 #[]).run Tryd.prog w = .ok (.agg #[.int .i64 0, .slice none 0 0, .bool false]) w := run_build w 31 _ _ built31n
theorem built31 (o : Int) (p q n c : Nat) : Tryd.prog.built 31 [(0, .int .i64 o), (1, .slice (some ⟨p, q, none⟩) n c), (2, .bool true)] = some #[.int .i64 o, .slice (some ⟨p, q, none⟩) n c, .bool true] := by kernel_rfl
theorem got_size {l : List Int} {v : Bool} (h : l.length = 32) : (u8s l ++ [Value.bool v]).toArray.size = 33 := by simp [h]
theorem got_one (l : List Int) (v : Bool) : ∀ z ∈ (u8s l ++ [Value.bool v]).toArray, z.oneCell' = true := fun z hz => by
  rcases List.mem_append.1 (by simpa using hz : z ∈ u8s l ++ [Value.bool v]) with h | h
  · obtain ⟨y, _, rfl⟩ := List.mem_map.1 h
    rfl
  · rw [List.mem_singleton.1 h]
    rfl
theorem got_ok {l : List Int} {v : Bool} (h : l.length = 32) : (u8s l ++ [Value.bool v])[32]? = some (.bool v) := by
  rw [List.getElem?_append_right (by simp [h])]
  simp [h]
theorem got_at {w : World} {g : Nat} {l : List Int} {v : Bool} (h : Blk w g (u8s l ++ [Value.bool v])) : At w g 0 (u8s l).toArray := h.sub 0 fun j hj => by
  have hj' : j < (u8s l).length := by simpa using hj
  rw [Nat.zero_add, List.getElem?_append_left hj', List.getElem?_eq_getElem hj']
  simp
theorem conv_bytes {w : World} {sv : Value} {l : List Int} (h : BytesAt w sv l) : (convert 24 9 sv).run Tryd.prog w = .ok (.string (strOfNums l)) w := by
  obtain ⟨a, cap, rfl, hc⟩ := h
  rw [run_convert_bytes_string w 24 9 5 a l.length cap Tryd.underlying24 Tryd.underlying5 Tryd.underlying9]
  cases l with
  | nil =>
    cases a with
    | none => rfl
    | some a =>
      have := run_bytesToString (P := Tryd.prog) w a 0 cap [] (by rfl)
      rw [List.length_nil, this]
      rfl
  | cons x l =>
    obtain ⟨b, o, e, _⟩ := hc 0 x rfl
    subst e
    have := run_bytesToString (P := Tryd.prog) w ⟨b, o, none⟩ (x :: l).length cap (x :: l) (by
      have hl := run_loadCells_list (P := Tryd.prog) w ⟨b, o, none⟩ ((x :: l).map (Value.int .u8)) (fun j v hv => by
        rw [List.getElem?_map] at hv
        cases hz : (x :: l)[j]? with
        | none => simp [hz] at hv
        | some z =>
          simp [hz] at hv
          subst hv
          obtain ⟨b', o', e', hx⟩ := hc j z hz
          cases e'
          rwa [show (⟨b, o, none⟩ : Addr).add j = ⟨b, o + j, none⟩ by unfold Addr.add; split <;> simp_all])
      simpa using hl)
    rw [this, foldl_push_bytes]
    simp [strOfNums, ByteArray.empty, ByteArray.emptyWithCapacity]
    rfl
theorem byte_inj {x y : Int} (hx : Byte x) (hy : Byte y) (h : UInt8.ofNat x.toNat = UInt8.ofNat y.toNat) : x = y := by
  obtain ⟨h1, h2⟩ := hx
  obtain ⟨h3, h4⟩ := hy
  have := congrArg UInt8.toNat h
  simp only [UInt8.toNat_ofNat'] at this
  omega
theorem str_inj {l m : List Int} (hl : ∀ x ∈ l, Byte x) (hm : ∀ x ∈ m, Byte x) : ((strOfNums l).toList == (strOfNums m).toList) = decide (l = m) := by
  rw [ByteArray.toList_eq, ByteArray.toList_eq, strOfNums_data, strOfNums_data]
  by_cases h : l = m
  · subst h
    simp
  · rw [decide_eq_false h]
    refine beq_eq_false_iff_ne.2 fun e => h ?_
    have e2 := e
    have key : ∀ (l m : List Int), (∀ x ∈ l, Byte x) → (∀ x ∈ m, Byte x) → (l.map fun n => UInt8.ofNat n.toNat) = (m.map fun n => UInt8.ofNat n.toNat) → l = m := by
      intro l
      induction l with
      | nil => intro m _ _ h; cases m with
        | nil => rfl
        | cons y m => simp at h
      | cons x l ih => intro m hl hm h; cases m with
        | nil => simp at h
        | cons y m =>
          simp only [List.map_cons, List.cons.injEq] at h
          rw [byte_inj (hl x (by simp)) (hm y (by simp)) h.1, ih m (fun z hz => hl z (by simp [hz])) (fun z hz => hm z (by simp [hz])) h.2]
    exact key l m hl hm e2
theorem bytes_any {w : World} {sv cv : Value} {l m : List Int} (h : BytesAt w sv l) (k : BytesAt w cv m) (hl : ∀ x ∈ l, Byte x) (hm : ∀ x ∈ m, Byte x) : Calls Tryd.prog 12 #[sv, cv] w fun e w' => e = .returned (.bool (decide (l = m))) ∧ w = w' := by
  have HL := Lib.hid (conv_bytes h)
  have HM := Lib.hid (conv_bytes k)
  have HE := Lib.hid (str_inj hl hm)
  clear h k hl hm
  go_enter Tryd.func12, Tryd.ntmps12
  repeat (first | (with_reducible refine stopR (id := 1) ?_) | go_values | go_skip | go_guarded | go_step | go_upon | go_back)
  refine Stop.mk (wp_region_lit ?_)
  refine takeL sv rfl (by go_simp) ?_
  try simp only [Act.put, List.setIfInBounds_toArray, List.set_cons_succ, List.set_cons_zero]
  refine takeL (.string (strOfNums l)) rfl (by have hq := HL.out; go_simp) ?_
  try simp only [Act.put, List.setIfInBounds_toArray, List.set_cons_succ, List.set_cons_zero]
  refine takeL cv rfl (by go_simp) ?_
  try simp only [Act.put, List.setIfInBounds_toArray, List.set_cons_succ, List.set_cons_zero]
  refine takeL (.string (strOfNums m)) rfl (by have hq := HM.out; go_simp) ?_
  try simp only [Act.put, List.setIfInBounds_toArray, List.set_cons_succ, List.set_cons_zero]
  refine takeL (.bool (decide (l = m))) rfl (by have hq := HE.out; go_simp) ?_
  try simp only [Act.put, List.setIfInBounds_toArray, List.set_cons_succ, List.set_cons_zero]
  refine takeL (.bool (decide (l = m))) rfl (by go_simp) ?_
  try simp only [Act.put, List.setIfInBounds_toArray, List.set_cons_succ, List.set_cons_zero]
  refine wpList_nil ?_
  go_wp2_with fail
  go_ret
  exact ⟨rfl, rfl⟩

set_option maxRecDepth 100000 in
set_option maxHeartbeats 1000000 in
theorem rdiff_no (a b : List Int) (ha : Pg a) (hb : Pg b) (o e : Nat) (hs : Span a b o e) (h : o = e ∨ 16 < e - o) (w : World) : Calls Tryd.prog 9 #[.agg (u8s a).toArray, .agg (u8s b).toArray] w fun r w' => r = .returned (.agg #[.int .i64 0, .slice none 0 0, .bool false]) ∧ Below w.heap.size w w' := by
  have HA := Lib.hid ha.length
  have HB := Lib.hid hb.length
  have HPA := Lib.hid ha
  have HPB := Lib.hid hb
  have HS := Lib.hid hs
  have HBL : Hid (Below w.heap.size w w) := Lib.hid (Below.refl _ _)
  clear ha hb
  have HH := Lib.hid h
  clear hs h
  go_enter Tryd.func9, Tryd.ntmps9
  go_upto_region 0 with fail
  refine wp_region_lit ?_
  refine box_g (cs := (u8s a).toArray) rfl rfl ?_
  intro w1 hA hb hl
  try simp only [Act.put, List.setIfInBounds_toArray, List.set_cons_succ, List.set_cons_zero]
  clear hl
  have HG2 : Hid (w.heap.size ≤ w.heap.size) := Lib.hid HBL.out.size
  have F3 := Lib.hid (HBL.out.trans (hb.mono HBL.out.size))
  clear HBL
  have F4 : Hid (Blk w1 w.heap.size (u8s a)) := Lib.hid hA
  clear hA hb
  refine box_g (cs := (u8s b).toArray) rfl rfl ?_
  intro w5 hA hb hl
  try simp only [Act.put, List.setIfInBounds_toArray, List.set_cons_succ, List.set_cons_zero]
  clear hl
  have HN6 := Lib.hid (Nat.ne_of_lt F4.out.lt)
  have HG7 : Hid (w.heap.size ≤ w1.heap.size) := Lib.hid F3.out.size
  have F8 := Lib.hid (F3.out.trans (hb.mono F3.out.size))
  have F9 := Lib.hid (F4.out.below hb F4.out.lt)
  clear F3 F4
  have F10 : Hid (Blk w5 w1.heap.size (u8s b)) := Lib.hid hA
  clear hA hb
  generalize w1.heap.size = g11 at *
  clear w1
  refine alloc_g zero31 rfl ?_
  intro w12 hA hb hl
  try simp only [Act.put, List.setIfInBounds_toArray, List.set_cons_succ, List.set_cons_zero]
  clear hl
  have HN13 := Lib.hid (Nat.ne_of_lt F9.out.lt)
  have HN14 := Lib.hid (Nat.ne_of_lt F10.out.lt)
  have HG15 : Hid (w.heap.size ≤ w5.heap.size) := Lib.hid F8.out.size
  have F16 := Lib.hid (F8.out.trans (hb.mono F8.out.size))
  have F17 := Lib.hid (F9.out.below hb F9.out.lt)
  have F18 := Lib.hid (F10.out.below hb F10.out.lt)
  clear F8 F9 F10
  have F19 : Hid (Blk w12 w5.heap.size [.int .i64 0, .slice none 0 0, .bool false]) := Lib.hid hA
  clear hA hb
  generalize w5.heap.size = g20 at *
  clear w5
  refine wpList_nil ?_
  go_wp2_with fail
  go_loopg [5, 6, 7] 32 (fun q f l i wr => ∃ k : Nat, 32 - k ≤ q ∧ k ≤ 32 ∧ i = .int .i64 k ∧ ((k ≤ o ∧ f = .int .i64 (-1) ∧ l = .int .i64 (-1)) ∨ (o < k ∧ f = .int .i64 o ∧ ∃ m : Nat, l = .int .i64 m ∧ o ≤ m ∧ m < k ∧ a[m]? ≠ b[m]? ∧ ∀ j, m < j → j < k → a[j]? = b[j]?)) ∧ Below w12.heap.size w12 wr)
  case atStart => exact ⟨0, by omega, by omega, rfl, .inl ⟨by omega, rfl, rfl⟩, Below.refl _ _⟩
  case round =>
    obtain ⟨k, hq, hk, rfl, hd, hbr⟩ := hrel
    have HR := Lib.hid hbr
    have G1 := F17.out.below hbr F17.out.lt
    have G2 := F18.out.below hbr F18.out.lt
    by_cases h3 : k < 32
    · clear hbr
      obtain ⟨x, y, ex, ey, hp, hs2, hf, hl⟩ := HS.out.at HPA.out HPB.out h3
      have EX := Lib.hid ex
      have EY := Lib.hid ey
      have hi : (k : Int) < 32 := by omega
      have hg : decide ((k : Int) < 32) = true := decide_eq_true hi
      have c1 := G1.cell (u8_cell ex)
      have c2 := G2.cell (u8_cell ey)
      have HD := Lib.hid hd
      clear G1 G2 ex ey hd
      by_cases hxy : x = y
      · subst hxy
        have he : (x == x) = true := by simp
        clear hp hs2 hf hl
        rcases HD.out with ⟨hd1, rfl, rfl⟩ | ⟨hd1, rfl, m, rfl, hd2, hd3, hml, hd4⟩
        · have HN : Hid (k + 1 ≤ o) := Lib.hid (by
            rcases (show k < o ∨ k = o by omega) with h | h
            · omega
            · exfalso
              subst h
              have := HS.out.fst (by
                have := HS.out.non
                have := HS.out.le
                omega)
              rw [EX.out, EY.out] at this
              exact this rfl)
          go_wp2_with fail
          go_quiet (fail)
          go_wp2_with fail
          go_roundg (32 - (k + 1))
          case measure => omega
          case rel => exact ⟨k + 1, by omega, by omega, by go_num, .inl ⟨HN.out, rfl, rfl⟩, drewN_below HR.out _⟩
        · have HM := Lib.hid hd4
          have HML := Lib.hid hml
          clear hd4 hml
          go_wp2_with fail
          go_quiet (fail)
          go_wp2_with fail
          go_roundg (32 - (k + 1))
          case measure => omega
          case rel => exact ⟨k + 1, by omega, by omega, by go_num, .inr ⟨by omega, rfl, m, rfl, by omega, by omega, HML.out, fun j h1 h2 => by
            rcases (show j < k ∨ j = k by omega) with h | rfl
            · exact HM.out j h1 h
            · rw [EX.out, EY.out]⟩, drewN_below HR.out _⟩
      · have he : (x == y) = false := by simpa using hxy
        have HNE : Hid (a[k]? ≠ b[k]?) := Lib.hid (by rw [EX.out, EY.out]; simpa using hxy)
        have HN : Hid (o ≤ k) := Lib.hid (by
          rcases Nat.lt_or_ge k o with h | h
          · exact absurd (hp h) hxy
          · exact h)
        clear hp hs2 hf hl
        rcases HD.out with ⟨hd1, rfl, rfl⟩ | ⟨hd1, rfl, m, rfl, hd2, hd3, hml, hd4⟩
        · have hko := HN.out
          go_wp2_with fail
          go_quiet (fail)
          go_wp2_with fail
          go_roundg (32 - (k + 1))
          case measure => omega
          case rel => exact ⟨k + 1, by omega, by omega, by go_num, .inr ⟨by omega, by rw [show k = o by omega], k, rfl, by omega, by omega, HNE.out, fun j h1 h2 => by omega⟩, drewN_below HR.out _⟩
        · clear hd4 hml
          have h0 : ¬ (o : Int) < 0 := by omega
          go_wp2_with fail
          go_quiet (fail)
          go_wp2_with fail
          go_roundg (32 - (k + 1))
          case measure => omega
          case rel => exact ⟨k + 1, by omega, by omega, by go_num, .inr ⟨by omega, rfl, k, rfl, by omega, by omega, HNE.out, fun j h1 h2 => by omega⟩, drewN_below HR.out _⟩
    · obtain rfl : k = 32 := by omega
      have hg : decide ((32 : Int) < 32) = false := by decide
      have HG1 := Lib.hid G1
      have HG2 := Lib.hid G2
      have HG3 := Lib.hid (F19.out.below hbr F19.out.lt)
      have HG4 := Lib.hid (F16.out.trans (HR.out.mono F16.out.size))
      clear G1 G2 hbr
      rcases hd with ⟨hd1, rfl, rfl⟩ | ⟨hd1, rfl, m, rfl, hd2, hd3, hml, hd4⟩
      · go_upto_region 10 with fail
        refine wp_region_lit ?_
        try simp only [List.append_eq, List.cons_append, List.nil_append]
        refine build_g (build31n _) rfl ?_
        try simp only [Act.put, List.setIfInBounds_toArray, List.set_cons_succ, List.set_cons_zero]
        refine store_all (cs := #[.int .i64 0, .slice none 0 0, .bool false]) HG3.out (rfl) info31 (by simp [Value.oneCell']) rfl rfl rfl ?_
        intro w21 hD hO hlD
        try simp only [Act.put, List.setIfInBounds_toArray, List.set_cons_succ, List.set_cons_zero]
        clear hlD
        have F22 := Lib.hid (HG1.out.only hO (HN13.out))
        have F23 := Lib.hid (HG2.out.only hO (HN14.out))
        have F24 := Lib.hid (HG4.out.trans (hO.below HG4.out.size (fun k hk => by rw [hk]; exact HG15.out)))
        clear HG1 HG2 HG4 HG3
        have R' : Hid (Blk w21 g20 [.int .i64 0, .slice none 0 0, .bool false]) := Lib.hid hD
        clear hD hO
        refine wpList_nil ?_
        go_wp2_with fail
        exact bodyPost_ret (v := .agg #[.int .i64 0, .slice none 0 0, .bool false]) (results_cell_at rfl _ _ g20 0 #[.int .i64 0, .slice none 0 0, .bool false] _ rfl Tryd.underlying31 rfl info31 (Blk.all R'.out rfl)) rfl ⟨rfl, F24.out⟩
      · have hoe : o < e := by
          have h1 := HS.out.le
          have h2 := HS.out.non
          have h3 := HS.out.up
          omega
        have hme : m = e - 1 := by
          rcases (show m < e - 1 ∨ m = e - 1 ∨ e ≤ m by omega) with h | h | h
          · exact absurd (hd4 (e - 1) h (by have := HS.out.up; omega)) (HS.out.lst hoe)
          · exact h
          · exfalso
            exact hml (HS.out.suf m h)
        have hh : 16 < m - o + 1 := by
          rcases HH.out with h | h <;> omega
        have w1 : IntKind.i64.wrap ((m : Int) - o) = (m : Int) - o := wrap64 (by omega) (by omega)
        have w2 : IntKind.i64.wrap ((m : Int) - o + 1) = (m : Int) - o + 1 := wrap64 (by omega) (by omega)
        have d1 : decide (16 < (m : Int) - o + 1) = true := decide_eq_true (by omega)
        have d0 : decide ((o : Int) < 0) = false := decide_eq_false (by omega)
        clear hd4 hml
        go_upto_region 10 with fail
        refine wp_region_lit ?_
        try simp only [List.append_eq, List.cons_append, List.nil_append]
        refine build_g (build31n _) rfl ?_
        try simp only [Act.put, List.setIfInBounds_toArray, List.set_cons_succ, List.set_cons_zero]
        refine store_all (cs := #[.int .i64 0, .slice none 0 0, .bool false]) HG3.out (rfl) info31 (by simp [Value.oneCell']) rfl rfl rfl ?_
        intro w21 hD hO hlD
        try simp only [Act.put, List.setIfInBounds_toArray, List.set_cons_succ, List.set_cons_zero]
        clear hlD
        have F22 := Lib.hid (HG1.out.only hO (HN13.out))
        have F23 := Lib.hid (HG2.out.only hO (HN14.out))
        have F24 := Lib.hid (HG4.out.trans (hO.below HG4.out.size (fun k hk => by rw [hk]; exact HG15.out)))
        clear HG1 HG2 HG4 HG3
        have R' : Hid (Blk w21 g20 [.int .i64 0, .slice none 0 0, .bool false]) := Lib.hid hD
        clear hD hO
        refine wpList_nil ?_
        go_wp2_with fail
        exact bodyPost_ret (v := .agg #[.int .i64 0, .slice none 0 0, .bool false]) (results_cell_at rfl _ _ g20 0 #[.int .i64 0, .slice none 0 0, .bool false] _ rfl Tryd.underlying31 rfl info31 (Blk.all R'.out rfl)) rfl ⟨rfl, F24.out⟩
set_option maxRecDepth 100000 in
set_option maxHeartbeats 1000000 in
theorem rdiff_yes (a b : List Int) (ha : Pg a) (hb : Pg b) (o m : Nat) (hs : Span a b o (o + m + 1)) (hm : m < 16) (w : World) : Calls Tryd.prog 9 #[.agg (u8s a).toArray, .agg (u8s b).toArray] w fun r w' => ∃ p q c, r = .returned (.agg #[.int .i64 o, .slice (some ⟨p, q, none⟩) (m + 1) c, .bool true]) ∧ BytesAt w' (.slice (some ⟨p, q, none⟩) (m + 1) c) (mid b o (o + m + 1)) ∧ Below w.heap.size w w' := by
  have HA := Lib.hid ha.length
  have HB := Lib.hid hb.length
  have HPA := Lib.hid ha
  have HPB := Lib.hid hb
  have HS := Lib.hid hs
  have HBL : Hid (Below w.heap.size w w) := Lib.hid (Below.refl _ _)
  clear ha hb
  have HL : Hid ((mid b o (o + m + 1)).length = m + 1) := Lib.hid (by rw [mid_length HPB.out (by omega) hs.up]; omega)
  have hu := hs.up
  clear hs
  go_enter Tryd.func9, Tryd.ntmps9
  go_upto_region 0 with fail
  refine wp_region_lit ?_
  refine box_g (cs := (u8s a).toArray) rfl rfl ?_
  intro w1 hA hb hl
  try simp only [Act.put, List.setIfInBounds_toArray, List.set_cons_succ, List.set_cons_zero]
  clear hl
  have HG2 : Hid (w.heap.size ≤ w.heap.size) := Lib.hid HBL.out.size
  have F3 := Lib.hid (HBL.out.trans (hb.mono HBL.out.size))
  clear HBL
  have F4 : Hid (Blk w1 w.heap.size (u8s a)) := Lib.hid hA
  clear hA hb
  refine box_g (cs := (u8s b).toArray) rfl rfl ?_
  intro w5 hA hb hl
  try simp only [Act.put, List.setIfInBounds_toArray, List.set_cons_succ, List.set_cons_zero]
  clear hl
  have HN6 := Lib.hid (Nat.ne_of_lt F4.out.lt)
  have HG7 : Hid (w.heap.size ≤ w1.heap.size) := Lib.hid F3.out.size
  have F8 := Lib.hid (F3.out.trans (hb.mono F3.out.size))
  have F9 := Lib.hid (F4.out.below hb F4.out.lt)
  clear F3 F4
  have F10 : Hid (Blk w5 w1.heap.size (u8s b)) := Lib.hid hA
  clear hA hb
  generalize w1.heap.size = g11 at *
  clear w1
  refine alloc_g zero31 rfl ?_
  intro w12 hA hb hl
  try simp only [Act.put, List.setIfInBounds_toArray, List.set_cons_succ, List.set_cons_zero]
  clear hl
  have HN13 := Lib.hid (Nat.ne_of_lt F9.out.lt)
  have HN14 := Lib.hid (Nat.ne_of_lt F10.out.lt)
  have HG15 : Hid (w.heap.size ≤ w5.heap.size) := Lib.hid F8.out.size
  have F16 := Lib.hid (F8.out.trans (hb.mono F8.out.size))
  have F17 := Lib.hid (F9.out.below hb F9.out.lt)
  have F18 := Lib.hid (F10.out.below hb F10.out.lt)
  clear F8 F9 F10
  have F19 : Hid (Blk w12 w5.heap.size [.int .i64 0, .slice none 0 0, .bool false]) := Lib.hid hA
  clear hA hb
  generalize w5.heap.size = g20 at *
  clear w5
  refine wpList_nil ?_
  go_wp2_with fail
  go_loopg [5, 6, 7] 32 (fun q f l i wr => ∃ k : Nat, 32 - k ≤ q ∧ k ≤ 32 ∧ i = .int .i64 k ∧ ((k ≤ o ∧ f = .int .i64 (-1) ∧ l = .int .i64 (-1)) ∨ (o < k ∧ f = .int .i64 o ∧ ∃ m : Nat, l = .int .i64 m ∧ o ≤ m ∧ m < k ∧ a[m]? ≠ b[m]? ∧ ∀ j, m < j → j < k → a[j]? = b[j]?)) ∧ Below w12.heap.size w12 wr)
  case atStart => exact ⟨0, by omega, by omega, rfl, .inl ⟨by omega, rfl, rfl⟩, Below.refl _ _⟩
  case round =>
    obtain ⟨k, hq, hk, rfl, hd, hbr⟩ := hrel
    have HR := Lib.hid hbr
    have G1 := F17.out.below hbr F17.out.lt
    have G2 := F18.out.below hbr F18.out.lt
    by_cases h3 : k < 32
    · clear hbr
      obtain ⟨x, y, ex, ey, hp, hs2, hf, hl⟩ := HS.out.at HPA.out HPB.out h3
      have EX := Lib.hid ex
      have EY := Lib.hid ey
      have hi : (k : Int) < 32 := by omega
      have hg : decide ((k : Int) < 32) = true := decide_eq_true hi
      have c1 := G1.cell (u8_cell ex)
      have c2 := G2.cell (u8_cell ey)
      have HD := Lib.hid hd
      clear G1 G2 ex ey hd
      by_cases hxy : x = y
      · subst hxy
        have he : (x == x) = true := by simp
        clear hp hs2 hf hl
        rcases HD.out with ⟨hd1, rfl, rfl⟩ | ⟨hd1, rfl, m, rfl, hd2, hd3, hml, hd4⟩
        · have HN : Hid (k + 1 ≤ o) := Lib.hid (by
            rcases (show k < o ∨ k = o by omega) with h | h
            · omega
            · exfalso
              subst h
              have := HS.out.fst (by
                have := HS.out.non
                have := HS.out.le
                omega)
              rw [EX.out, EY.out] at this
              exact this rfl)
          go_wp2_with fail
          go_quiet (fail)
          go_wp2_with fail
          go_roundg (32 - (k + 1))
          case measure => omega
          case rel => exact ⟨k + 1, by omega, by omega, by go_num, .inl ⟨HN.out, rfl, rfl⟩, drewN_below HR.out _⟩
        · have HM := Lib.hid hd4
          have HML := Lib.hid hml
          clear hd4 hml
          go_wp2_with fail
          go_quiet (fail)
          go_wp2_with fail
          go_roundg (32 - (k + 1))
          case measure => omega
          case rel => exact ⟨k + 1, by omega, by omega, by go_num, .inr ⟨by omega, rfl, m, rfl, by omega, by omega, HML.out, fun j h1 h2 => by
            rcases (show j < k ∨ j = k by omega) with h | rfl
            · exact HM.out j h1 h
            · rw [EX.out, EY.out]⟩, drewN_below HR.out _⟩
      · have he : (x == y) = false := by simpa using hxy
        have HNE : Hid (a[k]? ≠ b[k]?) := Lib.hid (by rw [EX.out, EY.out]; simpa using hxy)
        have HN : Hid (o ≤ k) := Lib.hid (by
          rcases Nat.lt_or_ge k o with h | h
          · exact absurd (hp h) hxy
          · exact h)
        clear hp hs2 hf hl
        rcases HD.out with ⟨hd1, rfl, rfl⟩ | ⟨hd1, rfl, m, rfl, hd2, hd3, hml, hd4⟩
        · have hko := HN.out
          go_wp2_with fail
          go_quiet (fail)
          go_wp2_with fail
          go_roundg (32 - (k + 1))
          case measure => omega
          case rel => exact ⟨k + 1, by omega, by omega, by go_num, .inr ⟨by omega, by rw [show k = o by omega], k, rfl, by omega, by omega, HNE.out, fun j h1 h2 => by omega⟩, drewN_below HR.out _⟩
        · clear hd4 hml
          have h0 : ¬ (o : Int) < 0 := by omega
          go_wp2_with fail
          go_quiet (fail)
          go_wp2_with fail
          go_roundg (32 - (k + 1))
          case measure => omega
          case rel => exact ⟨k + 1, by omega, by omega, by go_num, .inr ⟨by omega, rfl, k, rfl, by omega, by omega, HNE.out, fun j h1 h2 => by omega⟩, drewN_below HR.out _⟩
    · obtain rfl : k = 32 := by omega
      have hg : decide ((32 : Int) < 32) = false := by decide
      have HG1 := Lib.hid G1
      have HG2 := Lib.hid G2
      have HG3 := Lib.hid (F19.out.below hbr F19.out.lt)
      have HG4 := Lib.hid (F16.out.trans (HR.out.mono F16.out.size))
      clear G1 G2 hbr
      rcases hd with ⟨hd1, rfl, rfl⟩ | ⟨hd1, rfl, m2, rfl, hd2, hd3, hml, hd4⟩
      · omega
      · have hme : m2 = o + m := by
          rcases (show m2 < o + m ∨ m2 = o + m ∨ o + m + 1 ≤ m2 by omega) with h | h | h
          · exact absurd (hd4 (o + m) h (by omega)) (by simpa using HS.out.lst (by omega))
          · exact h
          · exfalso
            exact hml (HS.out.suf m2 h)
        clear hd4 hml
        subst hme
        have w1 : IntKind.i64.wrap (m : Int) = m := wrap64 (by omega) (by omega)
        have w2 : IntKind.i64.wrap ((m : Int) + 1) = (m : Int) + 1 := wrap64 (by omega) (by omega)
        have hs0 : ((o : Int) + m) - o = m := by omega
        have d1 : decide (16 < (m : Int) + 1) = false := decide_eq_false (by omega)
        have d0 : decide ((o : Int) < 0) = false := decide_eq_false (by omega)
        have HG3L := Lib.hid HG3.out.lt
        go_upto_region 11 with fail
        refine wp_region_lit ?_
        try simp only [List.append_eq, List.cons_append, List.nil_append]
        refine takeL (.int .i64 o) rfl (by go_simp) ?_
        try simp only [Act.put, List.setIfInBounds_toArray, List.set_cons_succ, List.set_cons_zero]
        refine wpList_run (.slice (some ⟨wr.heap.size, 0, none⟩) 0 0) (wr.alloc (.cells #[] 5)) rfl (by go_simp) ?_
        try simp only [Act.put, List.setIfInBounds_toArray, List.set_cons_succ, List.set_cons_zero]
        have hb1 := (Below.refl wr.heap.size wr).alloc (Nat.le_refl _) (.cells #[] 5)
        have hO := Own.lit wr wr.heap.size (Nat.le_refl _) [] (by simp) #[] rfl
        refine takeL (.int .i64 o) rfl (by go_simp) ?_
        try simp only [Act.put, List.setIfInBounds_toArray, List.set_cons_succ, List.set_cons_zero]
        refine takeL (.int .i64 ((o : Int) + m)) rfl (by go_simp) ?_
        try simp only [Act.put, List.setIfInBounds_toArray, List.set_cons_succ, List.set_cons_zero]
        refine takeL (.int .i64 ((o + m + 1 : Nat) : Int)) rfl (by go_simp; exact wrap64 (by omega) (by omega)) ?_
        try simp only [Act.put, List.setIfInBounds_toArray, List.set_cons_succ, List.set_cons_zero]
        refine takeL (.slice (some ⟨g11, o, none⟩) (o + m + 1 - o) (32 - o)) rfl (exec_slice_mid _ _ _ _ _ _ rfl g11 o (o + m + 1) rfl rfl rfl (by omega) hu (by omega)) ?_
        try simp only [Act.put, List.setIfInBounds_toArray, List.set_cons_succ, List.set_cons_zero]
        refine app_L hO hb1.size ((BytesAt.mid HPB.out HG2.out (o := o) (e := o + m + 1) (by omega) hu (32 - o)).below hb1) (by rw [HL.out]; simp; omega) rfl rfl rfl ?_
        intro sv w21 hO3 hB3
        try simp only [Act.put, List.setIfInBounds_toArray, List.set_cons_succ, List.set_cons_zero]
        rw [List.nil_append] at hO3
        have hbb := hb1.trans hB3
        have HO := Lib.hid hO3
        clear hb1 hO hO3 hB3
        have F22 := Lib.hid (HG1.out.below hbb HG1.out.lt)
        have F23 := Lib.hid (HG2.out.below hbb HG2.out.lt)
        have F24 := Lib.hid (HG3.out.below hbb HG3L.out)
        have F25 := Lib.hid (HG4.out.trans (hbb.mono HG4.out.size))
        clear HG1 HG2 HG3 HG4
        clear hbb
        obtain ⟨p, q, c, hsv, -⟩ := HO.out.bytes.has (by rw [HL.out]; omega)
        rw [HL.out] at hsv
        subst hsv
        have hne : p ≠ g20 := by
          have h1 := (HO.out.lt p rfl).1
          have h2 := HG3L.out
          omega
        have HNE := Lib.hid hne
        clear hne
        refine takeL (.agg #[.int .i64 o, .slice (some ⟨p, q, none⟩) (m + 1) c, .bool true]) rfl (exec_build _ _ _ _ 31 _ rfl #[(0, .int .i64 o), (1, .slice (some ⟨p, q, none⟩) (m + 1) c), (2, .bool true)] (by simp only [List.map_toArray, List.map_cons, List.map_nil]; rfl) _ (run_build _ 31 _ _ (built31 o p q (m + 1) c))) ?_
        try simp only [Act.put, List.setIfInBounds_toArray, List.set_cons_succ, List.set_cons_zero]
        refine store_all (cs := #[.int .i64 o, .slice (some ⟨p, q, none⟩) (m + 1) c, .bool true]) F24.out (rfl) info31 (by simp [Value.oneCell']) rfl rfl rfl ?_
        intro w26 hD hO hlD
        try simp only [Act.put, List.setIfInBounds_toArray, List.set_cons_succ, List.set_cons_zero]
        have hO2 := Lib.hid hO
        clear hlD
        have F27 := Lib.hid (F22.out.only hO (HN13.out))
        have F28 := Lib.hid (F23.out.only hO (HN14.out))
        have F29 := Lib.hid (F25.out.trans (hO.below F25.out.size (fun k hk => by rw [hk]; exact HG15.out)))
        clear F22 F23 F25 F24
        have R' : Hid (Blk w26 g20 [.int .i64 o, .slice (some ⟨p, q, none⟩) (m + 1) c, .bool true]) := Lib.hid hD
        clear hD hO
        refine wpList_nil ?_
        go_wp2_with fail
        exact bodyPost_ret (v := .agg #[.int .i64 o, .slice (some ⟨p, q, none⟩) (m + 1) c, .bool true]) (results_cell_at rfl _ _ g20 0 #[.int .i64 o, .slice (some ⟨p, q, none⟩) (m + 1) c, .bool true] _ rfl Tryd.underlying31 rfl info31 (Blk.all R'.out rfl)) rfl ⟨p, q, c, rfl, HO.out.bytes.only hO2.out (fun b o n c e => by cases e; exact HNE.out), F29.out⟩
set_option maxRecDepth 100000 in
set_option maxHeartbeats 1000000 in
theorem rapply_no0 (p l : List Int) (hp : p.length = 32) (off : Int) (sv : Value) (n : Nat) (hn : l.length = n) (hl : n ≤ 1000) (h1 : off < 0) (w : World) (hbs : BytesAt w sv l) : Calls Tryd.prog 11 #[.agg (u8s p).toArray, .int .i64 off, sv] w fun e w' => e = .returned (.agg (u8s (zeros 32) ++ [Value.bool false]).toArray) ∧ Below w.heap.size w w' := by
  have HZ32 := Lib.hid (zeros_length 32)
  have HP := Lib.hid hp
  have HBL : Hid (Below w.heap.size w w) := Lib.hid (Below.refl _ _)
  have HBY := Lib.hid hbs
  obtain ⟨sa, sc, he, -⟩ := hbs
  rw [hn] at he
  have HN := Lib.hid hn
  subst he
  clear hp hn
  go_enter Tryd.func11, Tryd.ntmps11
  go_upto_region 0 with fail
  refine wp_region_lit ?_
  refine box_g (cs := (u8s p).toArray) rfl rfl ?_
  intro w1 hA hb hl
  try simp only [Act.put, List.setIfInBounds_toArray, List.set_cons_succ, List.set_cons_zero]
  clear hl
  have HG2 : Hid (w.heap.size ≤ w.heap.size) := Lib.hid HBL.out.size
  have F3 := Lib.hid (HBL.out.trans (hb.mono HBL.out.size))
  clear HBL
  have F4 : Hid (Blk w1 w.heap.size (u8s p)) := Lib.hid hA
  clear hA hb
  refine alloc_g zero37 rfl ?_
  intro w5 hA hb hl
  try simp only [Act.put, List.setIfInBounds_toArray, List.set_cons_succ, List.set_cons_zero]
  clear hl
  have HN6 := Lib.hid (Nat.ne_of_lt F4.out.lt)
  have HG7 : Hid (w.heap.size ≤ w1.heap.size) := Lib.hid F3.out.size
  have F8 := Lib.hid (F3.out.trans (hb.mono F3.out.size))
  have F9 := Lib.hid (F4.out.below hb F4.out.lt)
  clear F3 F4
  have F10 : Hid (Blk w5 w1.heap.size (u8s (zeros 32) ++ [Value.bool false])) := Lib.hid hA
  clear hA hb
  generalize w1.heap.size = g11 at *
  clear w1
  refine wpList_nil ?_
  have d0 : decide (off < 0) = true := decide_eq_true (by omega)
  have d0p : (off < 0) := by omega
  clear h1
  go_upto_region 2 with fail
  refine wp_region_lit ?_
  try simp only [List.append_eq, List.cons_append, List.nil_append]
  refine build_g (build37n _) rfl ?_
  try simp only [Act.put, List.setIfInBounds_toArray, List.set_cons_succ, List.set_cons_zero]
  refine store_all (cs := (u8s (zeros 32) ++ [Value.bool false]).toArray) F10.out (by simp only [u8s_size, List.size_toArray, List.length_append, List.length_singleton, List.length_map, HZ32.out]) (by rw [got_size HZ32.out]; exact info37) (got_one _ _) rfl rfl rfl ?_
  intro w12 hD hO hlD
  try simp only [Act.put, List.setIfInBounds_toArray, List.set_cons_succ, List.set_cons_zero]
  clear hlD
  have F13 := Lib.hid (F8.out.trans (hO.below F8.out.size (fun k hk => by rw [hk]; exact HG7.out)))
  have F14 := Lib.hid (F9.out.only hO (HN6.out))
  clear F8 F9 F10
  have F10' : Hid (Blk w12 g11 (u8s (zeros 32) ++ [Value.bool false])) := Lib.hid hD
  clear hD hO
  refine wpList_nil ?_
  go_wp2_with fail
  exact bodyPost_ret (v := .agg (u8s (zeros 32) ++ [Value.bool false]).toArray) (results_cell_at rfl _ _ g11 0 (u8s (zeros 32) ++ [Value.bool false]).toArray _ rfl Tryd.underlying37 rfl (by rw [got_size HZ32.out]; exact info37) (Blk.all F10'.out rfl)) rfl ⟨rfl, F13.out⟩
set_option maxRecDepth 100000 in
set_option maxHeartbeats 1000000 in
theorem rapply_no1 (p l : List Int) (hp : p.length = 32) (off : Int) (sv : Value) (n : Nat) (hn : l.length = n) (hl : n ≤ 1000) (h1 : 32 < off) (w : World) (hbs : BytesAt w sv l) : Calls Tryd.prog 11 #[.agg (u8s p).toArray, .int .i64 off, sv] w fun e w' => e = .returned (.agg (u8s (zeros 32) ++ [Value.bool false]).toArray) ∧ Below w.heap.size w w' := by
  have HZ32 := Lib.hid (zeros_length 32)
  have HP := Lib.hid hp
  have HBL : Hid (Below w.heap.size w w) := Lib.hid (Below.refl _ _)
  have HBY := Lib.hid hbs
  obtain ⟨sa, sc, he, -⟩ := hbs
  rw [hn] at he
  have HN := Lib.hid hn
  subst he
  clear hp hn
  go_enter Tryd.func11, Tryd.ntmps11
  go_upto_region 0 with fail
  refine wp_region_lit ?_
  refine box_g (cs := (u8s p).toArray) rfl rfl ?_
  intro w1 hA hb hl
  try simp only [Act.put, List.setIfInBounds_toArray, List.set_cons_succ, List.set_cons_zero]
  clear hl
  have HG2 : Hid (w.heap.size ≤ w.heap.size) := Lib.hid HBL.out.size
  have F3 := Lib.hid (HBL.out.trans (hb.mono HBL.out.size))
  clear HBL
  have F4 : Hid (Blk w1 w.heap.size (u8s p)) := Lib.hid hA
  clear hA hb
  refine alloc_g zero37 rfl ?_
  intro w5 hA hb hl
  try simp only [Act.put, List.setIfInBounds_toArray, List.set_cons_succ, List.set_cons_zero]
  clear hl
  have HN6 := Lib.hid (Nat.ne_of_lt F4.out.lt)
  have HG7 : Hid (w.heap.size ≤ w1.heap.size) := Lib.hid F3.out.size
  have F8 := Lib.hid (F3.out.trans (hb.mono F3.out.size))
  have F9 := Lib.hid (F4.out.below hb F4.out.lt)
  clear F3 F4
  have F10 : Hid (Blk w5 w1.heap.size (u8s (zeros 32) ++ [Value.bool false])) := Lib.hid hA
  clear hA hb
  generalize w1.heap.size = g11 at *
  clear w1
  refine wpList_nil ?_
  have d0 : decide (off < 0) = false := decide_eq_false (by omega)
  have d0p : ¬ (off < 0) := by omega
  have d1 : decide (32 < off) = true := decide_eq_true (by omega)
  have d1p : (32 < off) := by omega
  clear h1
  go_upto_region 2 with fail
  refine wp_region_lit ?_
  try simp only [List.append_eq, List.cons_append, List.nil_append]
  refine build_g (build37n _) rfl ?_
  try simp only [Act.put, List.setIfInBounds_toArray, List.set_cons_succ, List.set_cons_zero]
  refine store_all (cs := (u8s (zeros 32) ++ [Value.bool false]).toArray) F10.out (by simp only [u8s_size, List.size_toArray, List.length_append, List.length_singleton, List.length_map, HZ32.out]) (by rw [got_size HZ32.out]; exact info37) (got_one _ _) rfl rfl rfl ?_
  intro w12 hD hO hlD
  try simp only [Act.put, List.setIfInBounds_toArray, List.set_cons_succ, List.set_cons_zero]
  clear hlD
  have F13 := Lib.hid (F8.out.trans (hO.below F8.out.size (fun k hk => by rw [hk]; exact HG7.out)))
  have F14 := Lib.hid (F9.out.only hO (HN6.out))
  clear F8 F9 F10
  have F10' : Hid (Blk w12 g11 (u8s (zeros 32) ++ [Value.bool false])) := Lib.hid hD
  clear hD hO
  refine wpList_nil ?_
  go_wp2_with fail
  exact bodyPost_ret (v := .agg (u8s (zeros 32) ++ [Value.bool false]).toArray) (results_cell_at rfl _ _ g11 0 (u8s (zeros 32) ++ [Value.bool false]).toArray _ rfl Tryd.underlying37 rfl (by rw [got_size HZ32.out]; exact info37) (Blk.all F10'.out rfl)) rfl ⟨rfl, F13.out⟩
set_option maxRecDepth 100000 in
set_option maxHeartbeats 1000000 in
theorem rapply_no2 (p l : List Int) (hp : p.length = 32) (off : Int) (sv : Value) (n : Nat) (hn : l.length = n) (hl : n ≤ 1000) (h0 : 0 ≤ off) (h1 : off ≤ 32) (h2 : n < 1) (w : World) (hbs : BytesAt w sv l) : Calls Tryd.prog 11 #[.agg (u8s p).toArray, .int .i64 off, sv] w fun e w' => e = .returned (.agg (u8s (zeros 32) ++ [Value.bool false]).toArray) ∧ Below w.heap.size w w' := by
  have HZ32 := Lib.hid (zeros_length 32)
  have HP := Lib.hid hp
  have HBL : Hid (Below w.heap.size w w) := Lib.hid (Below.refl _ _)
  have HBY := Lib.hid hbs
  obtain ⟨sa, sc, he, -⟩ := hbs
  rw [hn] at he
  have HN := Lib.hid hn
  subst he
  clear hp hn
  go_enter Tryd.func11, Tryd.ntmps11
  go_upto_region 0 with fail
  refine wp_region_lit ?_
  refine box_g (cs := (u8s p).toArray) rfl rfl ?_
  intro w1 hA hb hl
  try simp only [Act.put, List.setIfInBounds_toArray, List.set_cons_succ, List.set_cons_zero]
  clear hl
  have HG2 : Hid (w.heap.size ≤ w.heap.size) := Lib.hid HBL.out.size
  have F3 := Lib.hid (HBL.out.trans (hb.mono HBL.out.size))
  clear HBL
  have F4 : Hid (Blk w1 w.heap.size (u8s p)) := Lib.hid hA
  clear hA hb
  refine alloc_g zero37 rfl ?_
  intro w5 hA hb hl
  try simp only [Act.put, List.setIfInBounds_toArray, List.set_cons_succ, List.set_cons_zero]
  clear hl
  have HN6 := Lib.hid (Nat.ne_of_lt F4.out.lt)
  have HG7 : Hid (w.heap.size ≤ w1.heap.size) := Lib.hid F3.out.size
  have F8 := Lib.hid (F3.out.trans (hb.mono F3.out.size))
  have F9 := Lib.hid (F4.out.below hb F4.out.lt)
  clear F3 F4
  have F10 : Hid (Blk w5 w1.heap.size (u8s (zeros 32) ++ [Value.bool false])) := Lib.hid hA
  clear hA hb
  generalize w1.heap.size = g11 at *
  clear w1
  refine wpList_nil ?_
  have d0 : decide (off < 0) = false := decide_eq_false (by omega)
  have d0p : ¬ (off < 0) := by omega
  have d1 : decide (32 < off) = false := decide_eq_false (by omega)
  have d1p : ¬ (32 < off) := by omega
  have d2 : decide ((n : Int) < 1) = true := decide_eq_true (by omega)
  have d2p : ((n : Int) < 1) := by omega
  clear h0 h1 h2
  go_upto_region 2 with fail
  refine wp_region_lit ?_
  try simp only [List.append_eq, List.cons_append, List.nil_append]
  refine build_g (build37n _) rfl ?_
  try simp only [Act.put, List.setIfInBounds_toArray, List.set_cons_succ, List.set_cons_zero]
  refine store_all (cs := (u8s (zeros 32) ++ [Value.bool false]).toArray) F10.out (by simp only [u8s_size, List.size_toArray, List.length_append, List.length_singleton, List.length_map, HZ32.out]) (by rw [got_size HZ32.out]; exact info37) (got_one _ _) rfl rfl rfl ?_
  intro w12 hD hO hlD
  try simp only [Act.put, List.setIfInBounds_toArray, List.set_cons_succ, List.set_cons_zero]
  clear hlD
  have F13 := Lib.hid (F8.out.trans (hO.below F8.out.size (fun k hk => by rw [hk]; exact HG7.out)))
  have F14 := Lib.hid (F9.out.only hO (HN6.out))
  clear F8 F9 F10
  have F10' : Hid (Blk w12 g11 (u8s (zeros 32) ++ [Value.bool false])) := Lib.hid hD
  clear hD hO
  refine wpList_nil ?_
  go_wp2_with fail
  exact bodyPost_ret (v := .agg (u8s (zeros 32) ++ [Value.bool false]).toArray) (results_cell_at rfl _ _ g11 0 (u8s (zeros 32) ++ [Value.bool false]).toArray _ rfl Tryd.underlying37 rfl (by rw [got_size HZ32.out]; exact info37) (Blk.all F10'.out rfl)) rfl ⟨rfl, F13.out⟩
set_option maxRecDepth 100000 in
set_option maxHeartbeats 1000000 in
theorem rapply_no3 (p l : List Int) (hp : p.length = 32) (off : Int) (sv : Value) (n : Nat) (hn : l.length = n) (hl : n ≤ 1000) (h0 : 0 ≤ off) (h1 : off ≤ 32) (h2 : 1 ≤ n) (h3 : 32 - off < n) (w : World) (hbs : BytesAt w sv l) : Calls Tryd.prog 11 #[.agg (u8s p).toArray, .int .i64 off, sv] w fun e w' => e = .returned (.agg (u8s (zeros 32) ++ [Value.bool false]).toArray) ∧ Below w.heap.size w w' := by
  have HZ32 := Lib.hid (zeros_length 32)
  have HP := Lib.hid hp
  have HBL : Hid (Below w.heap.size w w) := Lib.hid (Below.refl _ _)
  have HBY := Lib.hid hbs
  obtain ⟨sa, sc, he, -⟩ := hbs
  rw [hn] at he
  have HN := Lib.hid hn
  subst he
  clear hp hn
  go_enter Tryd.func11, Tryd.ntmps11
  go_upto_region 0 with fail
  refine wp_region_lit ?_
  refine box_g (cs := (u8s p).toArray) rfl rfl ?_
  intro w1 hA hb hl
  try simp only [Act.put, List.setIfInBounds_toArray, List.set_cons_succ, List.set_cons_zero]
  clear hl
  have HG2 : Hid (w.heap.size ≤ w.heap.size) := Lib.hid HBL.out.size
  have F3 := Lib.hid (HBL.out.trans (hb.mono HBL.out.size))
  clear HBL
  have F4 : Hid (Blk w1 w.heap.size (u8s p)) := Lib.hid hA
  clear hA hb
  refine alloc_g zero37 rfl ?_
  intro w5 hA hb hl
  try simp only [Act.put, List.setIfInBounds_toArray, List.set_cons_succ, List.set_cons_zero]
  clear hl
  have HN6 := Lib.hid (Nat.ne_of_lt F4.out.lt)
  have HG7 : Hid (w.heap.size ≤ w1.heap.size) := Lib.hid F3.out.size
  have F8 := Lib.hid (F3.out.trans (hb.mono F3.out.size))
  have F9 := Lib.hid (F4.out.below hb F4.out.lt)
  clear F3 F4
  have F10 : Hid (Blk w5 w1.heap.size (u8s (zeros 32) ++ [Value.bool false])) := Lib.hid hA
  clear hA hb
  generalize w1.heap.size = g11 at *
  clear w1
  refine wpList_nil ?_
  have d0 : decide (off < 0) = false := decide_eq_false (by omega)
  have d0p : ¬ (off < 0) := by omega
  have d1 : decide (32 < off) = false := decide_eq_false (by omega)
  have d1p : ¬ (32 < off) := by omega
  have d2 : decide ((n : Int) < 1) = false := decide_eq_false (by omega)
  have d2p : ¬ ((n : Int) < 1) := by omega
  have w1 : IntKind.i64.wrap (32 - off) = 32 - off := wrap64 (by omega) (by omega)
  have d3 : decide (32 - off < (n : Int)) = true := decide_eq_true (by omega)
  have d3p : (32 - off < (n : Int)) := by omega
  clear h0 h1 h2 h3
  go_upto_region 2 with fail
  refine wp_region_lit ?_
  try simp only [List.append_eq, List.cons_append, List.nil_append]
  refine build_g (build37n _) rfl ?_
  try simp only [Act.put, List.setIfInBounds_toArray, List.set_cons_succ, List.set_cons_zero]
  refine store_all (cs := (u8s (zeros 32) ++ [Value.bool false]).toArray) F10.out (by simp only [u8s_size, List.size_toArray, List.length_append, List.length_singleton, List.length_map, HZ32.out]) (by rw [got_size HZ32.out]; exact info37) (got_one _ _) rfl rfl rfl ?_
  intro w12 hD hO hlD
  try simp only [Act.put, List.setIfInBounds_toArray, List.set_cons_succ, List.set_cons_zero]
  clear hlD
  have F13 := Lib.hid (F8.out.trans (hO.below F8.out.size (fun k hk => by rw [hk]; exact HG7.out)))
  have F14 := Lib.hid (F9.out.only hO (HN6.out))
  clear F8 F9 F10
  have F10' : Hid (Blk w12 g11 (u8s (zeros 32) ++ [Value.bool false])) := Lib.hid hD
  clear hD hO
  refine wpList_nil ?_
  go_wp2_with fail
  exact bodyPost_ret (v := .agg (u8s (zeros 32) ++ [Value.bool false]).toArray) (results_cell_at rfl _ _ g11 0 (u8s (zeros 32) ++ [Value.bool false]).toArray _ rfl Tryd.underlying37 rfl (by rw [got_size HZ32.out]; exact info37) (Blk.all F10'.out rfl)) rfl ⟨rfl, F13.out⟩
set_option maxRecDepth 100000 in
set_option maxHeartbeats 1000000 in
theorem rapply_yes (p l : List Int) (hp : p.length = 32) (o : Nat) (sv : Value) (n : Nat) (hn : l.length = n) (hl : n ≤ 1000) (h : Fits o l) (w : World) (hbs : BytesAt w sv l) : Calls Tryd.prog 11 #[.agg (u8s p).toArray, .int .i64 o, sv] w fun e w' => e = .returned (.agg (u8s (layI p o l) ++ [Value.bool true]).toArray) ∧ Below w.heap.size w w' := by
  have HZ32 := Lib.hid (zeros_length 32)
  have HP := Lib.hid hp
  have HBL : Hid (Below w.heap.size w w) := Lib.hid (Below.refl _ _)
  have HBY := Lib.hid hbs
  obtain ⟨sa, sc, he, -⟩ := hbs
  rw [hn] at he
  have HN := Lib.hid hn
  subst he
  clear hp hn
  have HF := Lib.hid h
  have HLY := Lib.hid (lay_size HP.out o HF.out)
  have hf1 : 0 < n := HN.out ▸ h.2.1
  have hf2 : (o : Int) + n ≤ 32 := HN.out ▸ h.2.2
  clear h
  go_enter Tryd.func11, Tryd.ntmps11
  go_upto_region 0 with fail
  refine wp_region_lit ?_
  refine box_g (cs := (u8s p).toArray) rfl rfl ?_
  intro w1 hA hb hl
  try simp only [Act.put, List.setIfInBounds_toArray, List.set_cons_succ, List.set_cons_zero]
  clear hl
  have HG2 : Hid (w.heap.size ≤ w.heap.size) := Lib.hid HBL.out.size
  have F3 := Lib.hid (HBL.out.trans (hb.mono HBL.out.size))
  clear HBL
  have F4 : Hid (Blk w1 w.heap.size (u8s p)) := Lib.hid hA
  clear hA hb
  refine alloc_g zero37 rfl ?_
  intro w5 hA hb hl
  try simp only [Act.put, List.setIfInBounds_toArray, List.set_cons_succ, List.set_cons_zero]
  clear hl
  have HN6 := Lib.hid (Nat.ne_of_lt F4.out.lt)
  have HG7 : Hid (w.heap.size ≤ w1.heap.size) := Lib.hid F3.out.size
  have F8 := Lib.hid (F3.out.trans (hb.mono F3.out.size))
  have F9 := Lib.hid (F4.out.below hb F4.out.lt)
  clear F3 F4
  have F10 : Hid (Blk w5 w1.heap.size (u8s (zeros 32) ++ [Value.bool false])) := Lib.hid hA
  clear hA hb
  generalize w1.heap.size = g11 at *
  clear w1
  refine wpList_nil ?_
  have d0 : decide ((o : Int) < 0) = false := decide_eq_false (by omega)
  have d0p : ¬ ((o : Int) < 0) := by omega
  have d1 : decide (32 < (o : Int)) = false := decide_eq_false (by omega)
  have d1p : ¬ (32 < (o : Int)) := by omega
  have d2 : decide ((n : Int) < 1) = false := decide_eq_false (by omega)
  have d2p : ¬ ((n : Int) < 1) := by omega
  have w1 : IntKind.i64.wrap (32 - (o : Int)) = 32 - (o : Int) := wrap64 (by omega) (by omega)
  have d3 : decide (32 - (o : Int) < (n : Int)) = false := decide_eq_false (by omega)
  have d3p : ¬ (32 - (o : Int) < (n : Int)) := by omega
  go_upto_region 3 with fail
  refine wp_region_lit ?_
  try simp only [List.append_eq, List.cons_append, List.nil_append]
  clear d0 d0p d1 d1p d2 d2p w1 d3 d3p
  refine takeL (.int .i64 o) rfl (by go_simp) ?_
  try simp only [Act.put, List.setIfInBounds_toArray, List.set_cons_succ, List.set_cons_zero]
  refine takeL (.slice (some ⟨w.heap.size, o, none⟩) (32 - o) (32 - o)) rfl (exec_slice_from _ _ _ _ _ rfl w.heap.size o rfl rfl (by omega)) ?_
  try simp only [Act.put, List.setIfInBounds_toArray, List.set_cons_succ, List.set_cons_zero]
  refine takeL (.slice sa n sc) rfl (by go_simp) ?_
  try simp only [Act.put, List.setIfInBounds_toArray, List.set_cons_succ, List.set_cons_zero]
  have HB2 := HBY.out.below F8.out
  obtain ⟨p', q', cap', hsv', hsrc⟩ := HB2.has (by rw [HN.out]; exact hf1)
  refine wpList_op rfl fun K hK => ?_
  refine wp_copy _ _ rfl Tryd.underlying24 info5s w.heap.size o (32 - o) (32 - o) p' q' l.length cap' rfl hsv' (u8s p) l F9.out (Nat.min_eq_left (by rw [HN.out]; omega)).symm hsrc (by rw [List.length_map, HP.out, HN.out]; omega) (some 29) rfl fun w12 hD hO => ?_
  refine hK _ _ ?_
  clear hK K HB2 hsv' hsrc
  try simp only [Act.put, List.setIfInBounds_toArray, List.set_cons_succ, List.set_cons_zero]
  rw [lay_u8s] at hD
  have F13 := Lib.hid (F8.out.trans (hO.below F8.out.size (fun k hk => by rw [hk]; exact HG2.out)))
  have F14 := Lib.hid (F10.out.only hO (HN6.out.symm))
  clear F8 F10 F9
  have FL : Hid (Blk w12 w.heap.size (u8s (layI p o l))) := Lib.hid hD
  clear hD hO
  refine wpList_nil ?_
  go_upto_region 4 with fail
  refine wp_region_lit ?_
  try simp only [List.append_eq, List.cons_append, List.nil_append]
  refine load23 (cs := (u8s (layI p o l)).toArray) (Blk.all FL.out rfl) (by rw [u8s_size, HLY.out]) rfl rfl ?_
  try simp only [Act.put, List.setIfInBounds_toArray, List.set_cons_succ, List.set_cons_zero]
  refine takeL (.agg (u8s (layI p o l) ++ [Value.bool true]).toArray) rfl (exec_build _ _ _ _ 37 _ rfl #[(0, .agg (u8s (layI p o l)).toArray), (1, .bool true)] (by simp only [List.map_toArray, List.map_cons, List.map_nil]; rfl) _ (run_build _ 37 _ _ (built37 HLY.out true))) ?_
  try simp only [Act.put, List.setIfInBounds_toArray, List.set_cons_succ, List.set_cons_zero]
  refine store_all (cs := (u8s (layI p o l) ++ [Value.bool true]).toArray) F14.out (by simp only [u8s_size, List.size_toArray, List.length_append, List.length_singleton, List.length_map, HLY.out, HZ32.out]) (by rw [got_size HLY.out]; exact info37) (got_one _ _) rfl rfl rfl ?_
  intro w15 hD hO hlD
  try simp only [Act.put, List.setIfInBounds_toArray, List.set_cons_succ, List.set_cons_zero]
  clear hlD
  have F16 := Lib.hid (F13.out.trans (hO.below F13.out.size (fun k hk => by rw [hk]; exact HG7.out)))
  have F17 := Lib.hid (FL.out.only hO (HN6.out))
  clear F13 FL F14
  have F10' : Hid (Blk w15 g11 (u8s (layI p o l) ++ [Value.bool true])) := Lib.hid hD
  clear hD hO
  refine wpList_nil ?_
  go_wp2_with fail
  exact bodyPost_ret (v := .agg (u8s (layI p o l) ++ [Value.bool true]).toArray) (results_cell_at rfl _ _ g11 0 (u8s (layI p o l) ++ [Value.bool true]).toArray _ rfl Tryd.underlying37 rfl (by rw [got_size HLY.out]; exact info37) (Blk.all F10'.out rfl)) rfl ⟨rfl, F16.out⟩
theorem rapply_no (p l : List Int) (hp : p.length = 32) (off : Int) (sv : Value) (hl : l.length ≤ 1000) (h : ¬ Fits off l) (w : World) (hbs : BytesAt w sv l) : Calls Tryd.prog 11 #[.agg (u8s p).toArray, .int .i64 off, sv] w fun e w' => e = .returned (.agg (u8s (zeros 32) ++ [Value.bool false]).toArray) ∧ Below w.heap.size w w' := by
  obtain ⟨n, hn⟩ : ∃ n, l.length = n := ⟨_, rfl⟩
  unfold Fits at h
  rw [hn] at hl h
  by_cases h0 : off < 0
  · exact rapply_no0 p l hp off sv n hn hl h0 w hbs
  by_cases h1 : 32 < off
  · exact rapply_no1 p l hp off sv n hn hl h1 w hbs
  by_cases h2 : n < 1
  · exact rapply_no2 p l hp off sv n hn hl (by omega) (by omega) h2 w hbs
  · exact rapply_no3 p l hp off sv n hn hl (by omega) (by omega) (by omega) (by omega) w hbs
end Go.Proofs.YtdfkpjffmjeffaaDoor
