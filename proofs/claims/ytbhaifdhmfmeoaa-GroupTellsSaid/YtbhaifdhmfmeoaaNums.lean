/- GroupNumbers' walk. -/
import Derived.Test.YtbhaifdhmfmeoaaRows2
namespace Go.Proofs.Ytbhaifdhmfmeoaa
set_option linter.unusedSimpArgs false
set_option linter.unusedVariables false
open Go.RowKit

def is83 (z : List Int) : Bool := decide (z.headD 0 = 83)
/-- How many summaries there are. -/
def cnt (Z : List (List Int)) : Nat := Z.countP is83
theorem cnt_append (Y Z : List (List Int)) : cnt (Y ++ Z) = cnt Y + cnt Z := List.countP_append
/-- Two sectors that differ in their number. -/
def Twin (x y : List Int) (p q : Int) : Prop := ∃ a c r, x = a :: c :: (le 4 p ++ r) ∧ y = a :: c :: (le 4 q ++ r)
theorem twin_body {b : Bk} (g : b.good = true) (p q : Int) : Twin (b.sec p) (b.sec q) p q ∧ is83 (b.sec p) = false := by
  rw [sec_good g, sec_good g]
  unfold Bk.enc
  split
  · exact ⟨⟨_, _, _, rfl, rfl⟩, rfl⟩
  · split
    · exact ⟨⟨_, _, _, rfl, rfl⟩, rfl⟩
    · exact ⟨⟨_, _, _, rfl, rfl⟩, rfl⟩
theorem twin_head {l : List It} (h : goodMarks (marks l) = true) (p q : Int) (mo : Bool) : Twin (headOfPart p mo l) (headOfPart q mo l) p q ∧ is83 (headOfPart p mo l) = true := by
  have e : ∀ s, headOfPart s mo l = Sm.enc ⟨s, mo, marks l⟩ := fun s => by
    unfold headOfPart Sm.sec
    rw [show (Sm.good ⟨s, mo, marks l⟩) = true from h]
    rfl
  rw [e, e]
  refine ⟨⟨83, bit mo, [((marks l).length : Int)] ++ (flat (marks l) ++ zeros (57 - 2 * (marks l).length)), ?_, ?_⟩, rfl⟩
  · simp only [Sm.enc, Sm.pre, List.cons_append, List.append_assoc]
  · simp only [Sm.enc, Sm.pre, List.cons_append, List.append_assoc]
theorem bodies_cnt {l : List It} (h : ∀ x ∈ l, x.ok = true) (p : Int) : cnt (bodies p l) = 0 := by
  refine List.countP_eq_zero.2 fun z hz => ?_
  obtain ⟨x, hx, rfl⟩ := List.mem_map.1 hz
  obtain ⟨h1, h2⟩ := List.mem_filter.1 hx
  rw [(twin_body (ok_has (h x h1) h2).2.2 p p).2]
  exact Bool.false_ne_true
theorem part_twin {l : List It} (hg : goodMarks (marks l) = true) (h : ∀ x ∈ l, x.ok = true) (p q : Int) (mo : Bool) (i : Nat) (x : List Int) (hx : (partOf p mo l)[i]? = some x) : ∃ y, (partOf q mo l)[i]? = some y ∧ Twin x y p q ∧ cnt ((partOf p mo l).take (i + 1)) = 1 := by
  have hc : ∀ k, cnt ((partOf p mo l).take (k + 1)) = 1 := fun k => by
    unfold partOf
    rw [List.take_succ_cons]
    unfold cnt
    rw [List.countP_cons, (twin_head hg p q mo).2]
    have : ((bodies p l).take k).countP is83 = 0 := by
      have h0 := bodies_cnt h p
      have h1 := cnt_append ((bodies p l).take k) ((bodies p l).drop k)
      rw [List.take_append_drop, h0] at h1
      unfold cnt at h1
      omega
    rw [this]
    rfl
  cases i with
  | zero =>
    have : x = headOfPart p mo l := by
      simp only [partOf, List.getElem?_cons_zero] at hx
      exact (Option.some.inj hx).symm
    subst this
    exact ⟨_, rfl, (twin_head hg p q mo).1, hc 0⟩
  | succ k =>
    simp only [partOf, List.getElem?_cons_succ, bodies, List.getElem?_map] at hx ⊢
    cases e : (l.filter It.has)[k]? with
    | none => rw [e] at hx; cases hx
    | some z =>
      rw [e] at hx
      cases hx
      obtain ⟨h1, h2⟩ := List.mem_filter.1 (List.mem_of_getElem? e)
      exact ⟨_, rfl, (twin_body (ok_has (h z h1) h2).2.2 p q).1, hc (k + 1)⟩
theorem chunk_ok {l : List It} (h : mayBe l = true) (k : Nat) : ∀ x ∈ chunk l k, x.ok = true := fun x hx => (mayBe_iff.1 h).2.2.1 x (mem_chunk hx)
theorem layTo_twin {l : List It} (h : mayBe l = true) (n m : Int) (k : Nat) (hk : k ≤ parts l.length) : cnt (layTo n l k).1 = k ∧ ∀ i x, (layTo n l k).1[i]? = some x → ∃ y j, (layTo m l k).1[i]? = some y ∧ j < k ∧ cnt ((layTo n l k).1.take (i + 1)) = j + 1 ∧ Twin x y ((n + (j : Nat)) % M32) ((m + (j : Nat)) % M32) := by
  induction k with
  | zero => exact ⟨rfl, fun i x hx => by simp [layTo] at hx⟩
  | succ k ih =>
    obtain ⟨i1, i2⟩ := ih (by omega)
    have hg := marks_good h (k := k) hk
    have hok := chunk_ok h k
    have hl : (layTo m l k).1.length = (layTo n l k).1.length := by rw [layTo_length, layTo_length]
    rw [layTo_succ, layTo_succ]
    refine ⟨?_, fun i x hx => ?_⟩
    · rw [cnt_append, i1]
      have := bodies_cnt hok ((n + k) % M32)
      unfold partOf
      unfold cnt at this ⊢
      rw [List.countP_cons, (twin_head hg _ 0 _).2, this]
      rfl
    · by_cases hi : i < (layTo n l k).1.length
      · rw [List.getElem?_append_left hi] at hx
        obtain ⟨y, j, hy, hj, hc, ht⟩ := i2 i x hx
        refine ⟨y, j, ?_, by omega, ?_, ht⟩
        · rw [List.getElem?_append_left (by rw [hl]; exact hi)]; exact hy
        · rw [List.take_append_of_le_length (by omega)]; exact hc
      · rw [List.getElem?_append_right (by omega)] at hx
        obtain ⟨y, hy, ht, hc⟩ := part_twin hg hok _ ((m + k) % M32) _ _ x hx
        refine ⟨y, k, ?_, by omega, ?_, ht⟩
        · rw [List.getElem?_append_right (by rw [hl]; omega), hl]; exact hy
        · rw [List.take_append, List.take_of_length_le (by omega), cnt_append, i1, show i + 1 - (layTo n l k).1.length = i - (layTo n l k).1.length + 1 by omega, hc]
theorem lay2_twin {l : List It} (h : mayBe l = true) (n m : Int) : cnt (lay2 n l).1 = parts l.length ∧ ∀ i x, (lay2 n l).1[i]? = some x → ∃ y j, (lay2 m l).1[i]? = some y ∧ j < parts l.length ∧ cnt ((lay2 n l).1.take (i + 1)) = j + 1 ∧ Twin x y ((n + (j : Nat)) % M32) ((m + (j : Nat)) % M32) := layTo_twin h n m _ (Nat.le_refl _)
theorem cnt_step {Z : List (List Int)} {i : Nat} {x : List Int} (h : Z[i]? = some x) : cnt (Z.take (i + 1)) = cnt (Z.take i) + (if is83 x then 1 else 0) := by
  rw [List.take_add_one, h, cnt_append]
  cases e : is83 x <;> simp [cnt, e]
theorem twin_eq {x y : List Int} {p q : Int} (h : Twin x y p q) {j : Nat} (hj : j < 2 ∨ 6 ≤ j) : x[j]? = y[j]? := by
  obtain ⟨a, c, r, rfl, rfl⟩ := h
  rw [le4, le4]
  rcases hj with hj | hj
  · rcases (show j = 0 ∨ j = 1 by omega) with rfl | rfl <;> rfl
  · obtain ⟨d, rfl⟩ := Nat.exists_eq_add_of_le hj
    rw [show 6 + d = d + 1 + 1 + 1 + 1 + 1 + 1 by omega]
    rfl
theorem twin_le {x y : List Int} {p q : Int} (h : Twin x y p q) : x[2]? = some (p % 256) ∧ x[3]? = some (p / 256 % 256) ∧ x[4]? = some (p / 65536 % 256) ∧ x[5]? = some (p / 16777216 % 256) ∧ y[2]? = some (q % 256) ∧ y[3]? = some (q / 256 % 256) ∧ y[4]? = some (q / 65536 % 256) ∧ y[5]? = some (q / 16777216 % 256) := by
  obtain ⟨a, c, r, rfl, rfl⟩ := h
  rw [le4, le4]
  exact ⟨rfl, rfl, rfl, rfl, rfl, rfl, rfl, rfl⟩
theorem SecsAt.cellAt {w : World} {g o n c : Nat} {X : List (List Int)} {x : List Int} {i j : Nat} {v : Int} (h : SecsAt w (.slice (some ⟨g, o, none⟩) n c) X) (hx : X[i]? = some x) (hv : x[j]? = some v) : w.cell? ⟨g, o + i * 64 + j, none⟩ = some (.int .u8 v) := by
  obtain ⟨a, c', e, -, hc⟩ := h
  obtain ⟨h1, g2, o2, h3, h4⟩ := hc i x hx
  injection e with q1 q2 q3
  rw [← q1] at h3
  injection h3 with h5
  injection h5 with h6 h7
  subst h6
  subst h7
  have hj := (List.getElem?_eq_some_iff.1 hv).1
  rw [h4 j (by simpa [u8s] using hj)]
  have e := (List.getElem?_eq_some_iff.1 hv).2
  simp [u8s, e]
/-- What stays while the sectors are gone through. -/
structure NS (w wx : World) (gx ox cx gy oy cy T : Nat) (X Y : List (List Int)) (n m : Int) : Prop where
  x : SecsAt wx (.slice (some ⟨gx, ox, none⟩) T cx) X
  y : SecsAt wx (.slice (some ⟨gy, oy, none⟩) T cy) Y
  b : Blk wx w.heap.size [.int .u32 n, .int .u32 m]
  l : Below w.heap.size w wx
theorem NS.below {w wx wy : World} {gx ox cx gy oy cy T : Nat} {X Y : List (List Int)} {n m : Int} (h : NS w wx gx ox cx gy oy cy T X Y n m) (hb : Below wx.heap.size wx wy) : NS w wy gx ox cx gy oy cy T X Y n m :=
  ⟨h.x.below hb, h.y.below hb, h.b.below hb h.b.lt, stay h.l hb⟩
set_option maxRecDepth 100000 in
theorem nums_bad (a : List (It × Value)) (n m : Int) (av : Value) (na : a.length ≤ 9223372036854775807) (hf : fair (a.map (·.1)) = false) (w : World) (ha : ItemsAt w av a) : Calls Try.prog 8 #[av, .agg #[.int .u32 n, .int .u32 m]] w fun e w' => e = .returned (.bool true) ∧ Below w.heap.size w w' := by
  have HFA := Lib.hid (fun w h => fair_any a a.length rfl na av w h)
  have HWK := Lib.hid wakes_any
  rw [hf] at HFA
  have HA := Lib.hid ha
  clear ha na hf
  go_enter Try.func8, Try.ntmps8
  go_upto_region 1 with fail
  have HB := Lib.hid (alloc_bel w (.cells #[.int .u32 n, .int .u32 m] 47))
  generalize w.alloc (.cells #[.int .u32 n, .int .u32 m] 47) = w1 at *
  go_wp2_with fail
  refine (HFA.out _ (HA.out.below HB.out)).mono ?_
  rintro e w2 ⟨rfl, rfl⟩
  go_wp2_with fail
  refine (HWK.out _).mono ?_
  rintro e w3 ⟨rfl, hb⟩
  have HB3 := Lib.hid (stay HB.out hb)
  clear hb
  go_wp2_with fail
  go_ret
  exact ⟨rfl, HB3.out⟩
set_option maxRecDepth 100000 in
set_option maxHeartbeats 8000000 in
theorem nums_any (a : List (It × Value)) (n m : Int) (hn : 0 ≤ n ∧ n < 4294967296) (hm : 0 ≤ m ∧ m < 4294967296) (av : Value) (na : a.length ≤ 9223372036854775807) (w : World) (ha : ItemsAt w av a) : Calls Try.prog 8 #[av, .agg #[.int .u32 n, .int .u32 m]] w fun e w' => e = .returned (.bool true) ∧ Below w.heap.size w w' := by
  cases hf : fair (a.map (·.1))
  · exact nums_bad a n m av na hf w ha
  have HFA := Lib.hid (fun w h => fair_any a a.length rfl na av w h)
  rw [hf] at HFA
  have hla := fair_len hf
  rw [List.length_map] at hla
  have HWK := Lib.hid wakes_any
  obtain ⟨A, hA⟩ : ∃ A, a.map (·.1) = A := ⟨_, rfl⟩
  have HLN := Lib.hid fun w h => lay_gen a A hA n hn av (by omega) w h
  have HLM := Lib.hid fun w h => lay_gen a A hA m hm av (by omega) w h
  have HPA := Lib.hid fun w h => partsG_any a A hA av (by omega) w h
  have HIA := Lib.hid ha
  have HALN : Hid (A.length ≤ 100) := Lib.hid (by rw [← hA, List.length_map]; exact hla)
  have HSN := Lib.hid (seq_ok hn)
  have HSM := Lib.hid (seq_ok hm)
  clear hf hla hA ha na
  go_enter Try.func8, Try.ntmps8
  go_upto_region 1 with fail
  have HB := Lib.hid (alloc_bel w (.cells #[.int .u32 n, .int .u32 m] 47))
  have HX := Lib.hid (Blk.new w #[.int .u32 n, .int .u32 m] 47)
  generalize w.alloc (.cells #[.int .u32 n, .int .u32 m] 47) = w1 at *
  go_wp2_with fail
  refine (HFA.out _ (HIA.out.below HB.out)).mono ?_
  rintro e w2 ⟨rfl, rfl⟩
  have c0 : w1.cell? ⟨w.heap.size, 0, none⟩ = some (.int .u32 n) := HX.out.cell rfl
  go_wp2_with fail
  refine (HLN.out _ (HIA.out.below HB.out)).mono ?_
  rintro e w3 ⟨s7, s8, e0, rfl, hlo⟩
  have HB3 := Lib.hid (stay HB.out hlo.bel)
  have HX3 := Lib.hid (HX.out.below hlo.bel HX.out.lt)
  have HLO := Lib.hid hlo
  clear hlo HLN HFA c0 HX
  have c1 : w3.cell? ⟨w.heap.size, 1, none⟩ = some (.int .u32 m) := HX3.out.cell rfl
  go_wp2_with fail
  refine (HLM.out _ (HIA.out.below HB3.out)).mono ?_
  rintro e w4 ⟨t7, t8, e1, rfl, hlo⟩
  have HB4 := Lib.hid (stay HB3.out hlo.bel)
  have HX4 := Lib.hid (HX3.out.below hlo.bel HX3.out.lt)
  have HLP := Lib.hid hlo
  clear hlo HLM c1 HX3
  cases hmA : mayBe A
  · obtain ⟨rfl, rfl, rfl⟩ := HLO.out.no hmA
    obtain ⟨rfl, rfl, rfl⟩ := HLP.out.no hmA
    clear hmA
    go_wp2_with fail
    refine (HWK.out _).mono ?_
    rintro e w5 ⟨rfl, hb⟩
    have HB5 := Lib.hid (stay HB4.out hb)
    clear hb
    go_wp2_with fail
    go_ret
    exact ⟨rfl, HB5.out⟩
  obtain ⟨rfl, htA⟩ := HLO.out.yes hmA
  obtain ⟨rfl, htB⟩ := HLP.out.yes hmA
  have HXS := Lib.hid (htA.s.secs.below HLP.out.bel)
  have HYS := Lib.hid htB.s.secs
  obtain ⟨ax, cx, hs7, -⟩ := htA.s.len
  obtain ⟨ay, cy, ht7, -⟩ := htB.s.len
  obtain ⟨T, hT⟩ : ∃ l, (lay2 n A).1.length = l := ⟨_, rfl⟩
  have hT2 : (lay2 m A).1.length = T := by rw [← hT, lay2_length, lay2_length]
  rw [hT] at hs7
  rw [hT2] at ht7
  subst hs7
  subst ht7
  have hTW := lay2_twin hmA n m
  have hpp := (parts_pos hmA)
  have hpa : partsN A = (parts A.length : Int) := by unfold partsN; rw [hmA, if_pos rfl]
  obtain ⟨P, hP⟩ : ∃ p, parts A.length = p := ⟨_, rfl⟩
  rw [hpa, hP] at HPA
  rw [hP] at hTW hpp
  have hT3 : T ≤ 200 := by
    rw [← hT, lay2_length]
    have h1 := blocks_le (marks A)
    rw [List.length_map] at h1
    have := HALN.out
    omega
  obtain ⟨gx, ox, c1, h1, -⟩ := HXS.out.has (by rw [lay2_length]; omega)
  obtain ⟨gy, oy, c2, h2, -⟩ := HYS.out.has (by rw [lay2_length]; omega)
  have q1 : ax = some ⟨gx, ox, none⟩ := by injection h1
  have q2 : ay = some ⟨gy, oy, none⟩ := by injection h2
  subst q1
  subst q2
  have HTW := Lib.hid hTW
  have HT := Lib.hid hT
  have HT2 := Lib.hid hT2
  have HP3 := Lib.hid hpp
  clear hTW hT hT2 hpp hP hpa h1 h2 htA htB HLO HLP hmA hn hm
  go_wp2_with fail
  have HNS0 := Lib.hid (NS.mk HXS.out HYS.out HX4.out HB4.out)
  clear HXS HYS HX4 HB4
  go_loopg [11, 12] T (fun q p i wr => ∃ k : Nat, T - k ≤ q ∧ k ≤ T ∧ i = .int .i64 k ∧ p = .int .i64 ((cnt ((lay2 n A).1.take k) : Int) - 1) ∧ NS w wr gx ox cx gy oy cy T (lay2 n A).1 (lay2 m A).1 n m)
  case atStart => exact ⟨0, by omega, by omega, rfl, rfl, HNS0.out⟩
  case round =>
    obtain ⟨k, hq, hk, rfl, rfl, hns⟩ := hrel
    have HNS := Lib.hid hns
    clear hns HNS0
    by_cases hkT : k < T
    · obtain ⟨x, hx⟩ : ∃ x, (lay2 n A).1[k]? = some x := ⟨_, List.getElem?_eq_getElem (by rw [HT.out]; exact hkT)⟩
      obtain ⟨y, j, hy, hj, hc, ht⟩ := HTW.out.2 k x hx
      have hs := cnt_step hx
      rw [hc] at hs
      obtain ⟨p, hp⟩ : ∃ p, (n + (j : Int)) % M32 = p := ⟨_, rfl⟩
      obtain ⟨q1, hq1⟩ : ∃ p, (m + (j : Int)) % M32 = p := ⟨_, rfl⟩
      rw [hp, hq1] at ht
      have hj3 : j < 3 := by have := HP3.out; omega
      obtain ⟨v0, r0, hx0⟩ : ∃ v r, x = v :: r := by obtain ⟨a1, c1, r1, e, -⟩ := ht; exact ⟨_, _, e⟩
      have h83 : is83 x = decide (v0 = 83) := by rw [hx0]; rfl
      have hv0 : x[0]? = some v0 := by rw [hx0]; rfl
      have cc0 := HNS.out.x.cellAt hx hv0
      have c0 : wr.cell? ⟨gx, ox + k * 64, none⟩ = some (.int .u8 v0) := cc0
      have GJ : Hid (IntKind.u32.wrap (j : Int) = (j : Int)) := Lib.hid (wrap32 (by omega) (by omega))
      have GP : Hid (IntKind.u32.wrap (n + (j : Int)) = p) := Lib.hid (by rw [IntKind.wrap_u32, ← hp]; rfl)
      have GQ : Hid (IntKind.u32.wrap (m + (j : Int)) = q1) := Lib.hid (by rw [IntKind.wrap_u32, ← hq1]; rfl)
      have HSP : Hid (Seq32 p) := Lib.hid (by rw [← hp]; exact seq_mod _)
      have HSQ : Hid (Seq32 q1) := Lib.hid (by rw [← hq1]; exact seq_mod _)
      have HTWX := Lib.hid ht
      have HXX := Lib.hid hx
      have HYY := Lib.hid hy
      have HC := Lib.hid hc
      have gk : decide ((k : Int) < (T : Int)) = true := decide_eq_true (by omega)
      have gj0 : decide ((j : Int) < 0) = false := decide_eq_false (by omega)
      clear hp hq1 ht hx hy hc cc0 hx0 hv0
      by_cases e83 : v0 = 83
      · have hcj : cnt ((lay2 n A).1.take k) = j := by rw [h83, decide_eq_true e83] at hs; simp at hs; omega
        rw [hcj]
        clear hs h83 hcj
        have ge : decide (v0 = 83) = true := decide_eq_true e83
        have gw : IntKind.i64.wrap ((j : Int) - 1 + 1) = (j : Int) := by rw [show (j : Int) - 1 + 1 = j by omega]; exact wrap64 (by omega) (by omega)
        have gw2 : IntKind.i64.wrap (j : Int) = (j : Int) := wrap64 (by omega) (by omega)

        go_upto_region 17 with fail
        refine startH (fun wq => Below wr.heap.size wr wq) (by kernel_rfl) ?_
        have HSX : Hid (Below wr.heap.size wr wr.drew) := Lib.hid (Below.refl _ _).drew
        generalize wr.drew = wS at *
        refine takeH 0 (some 70) (.pointer (some ⟨w.heap.size, 0, none⟩)) rfl rfl (by kernel_rfl) (by kernel_rfl) (by kernel_rfl) (fun _ _ _ h => h) rfl (fun wq hS => by go_simp) HSX.out ?_
        try simp only [Act.put, List.setIfInBounds_toArray, List.set_cons_succ, List.set_cons_zero]
        refine takeH 1 (some 71) (.int .u32 n) rfl rfl (by kernel_rfl) (by kernel_rfl) (by kernel_rfl) (fun _ _ _ h => h) rfl (fun wq hS => by have q : wq.cell? ⟨w.heap.size, 0, none⟩ = some (.int .u32 n) := (HNS.out.below hS).b.cell rfl; go_simp) HSX.out ?_
        try simp only [Act.put, List.setIfInBounds_toArray, List.set_cons_succ, List.set_cons_zero]
        refine takeH 2 (some 72) (.int .i64 j) rfl rfl (by kernel_rfl) (by kernel_rfl) (by kernel_rfl) (fun _ _ _ h => h) rfl (fun wq hS => by go_simp) HSX.out ?_
        try simp only [Act.put, List.setIfInBounds_toArray, List.set_cons_succ, List.set_cons_zero]
        refine takeH 3 (some 73) (.int .u32 j) rfl rfl (by kernel_rfl) (by kernel_rfl) (by kernel_rfl) (fun _ _ _ h => h) rfl (fun wq hS => by have g := GJ.out; go_simp) HSX.out ?_
        try simp only [Act.put, List.setIfInBounds_toArray, List.set_cons_succ, List.set_cons_zero]
        refine takeH 4 (some 74) (.int .u32 p) rfl rfl (by kernel_rfl) (by kernel_rfl) (by kernel_rfl) (fun _ _ _ h => h) rfl (fun wq hS => by have g := GP.out; go_simp) HSX.out ?_
        try simp only [Act.put, List.setIfInBounds_toArray, List.set_cons_succ, List.set_cons_zero]
        refine takeH 10 (some 13) (.int .u32 p) rfl rfl (by kernel_rfl) (by kernel_rfl) (by kernel_rfl) (fun _ _ _ h => h) rfl (fun wq hS => by go_simp) HSX.out ?_
        try simp only [Act.put, List.setIfInBounds_toArray, List.set_cons_succ, List.set_cons_zero]
        refine takeH 5 (some 75) (.pointer (some ⟨w.heap.size, 1, none⟩)) rfl rfl (by kernel_rfl) (by kernel_rfl) (by kernel_rfl) (fun _ _ _ h => h) rfl (fun wq hS => by go_simp) HSX.out ?_
        try simp only [Act.put, List.setIfInBounds_toArray, List.set_cons_succ, List.set_cons_zero]
        refine takeH 6 (some 76) (.int .u32 m) rfl rfl (by kernel_rfl) (by kernel_rfl) (by kernel_rfl) (fun _ _ _ h => h) rfl (fun wq hS => by have q : wq.cell? ⟨w.heap.size, 1, none⟩ = some (.int .u32 m) := (HNS.out.below hS).b.cell rfl; go_simp) HSX.out ?_
        try simp only [Act.put, List.setIfInBounds_toArray, List.set_cons_succ, List.set_cons_zero]
        refine takeH 7 (some 77) (.int .i64 j) rfl rfl (by kernel_rfl) (by kernel_rfl) (by kernel_rfl) (fun _ _ _ h => h) rfl (fun wq hS => by go_simp) HSX.out ?_
        try simp only [Act.put, List.setIfInBounds_toArray, List.set_cons_succ, List.set_cons_zero]
        refine takeH 8 (some 78) (.int .u32 j) rfl rfl (by kernel_rfl) (by kernel_rfl) (by kernel_rfl) (fun _ _ _ h => h) rfl (fun wq hS => by have g := GJ.out; go_simp) HSX.out ?_
        try simp only [Act.put, List.setIfInBounds_toArray, List.set_cons_succ, List.set_cons_zero]
        refine takeH 9 (some 79) (.int .u32 q1) rfl rfl (by kernel_rfl) (by kernel_rfl) (by kernel_rfl) (fun _ _ _ h => h) rfl (fun wq hS => by have g := GQ.out; go_simp) HSX.out ?_
        try simp only [Act.put, List.setIfInBounds_toArray, List.set_cons_succ, List.set_cons_zero]
        refine takeH 11 (some 14) (.int .u32 q1) rfl rfl (by kernel_rfl) (by kernel_rfl) (by kernel_rfl) (fun _ _ _ h => h) rfl (fun wq hS => by go_simp) HSX.out ?_
        try simp only [Act.put, List.setIfInBounds_toArray, List.set_cons_succ, List.set_cons_zero]
        refine wpAnyH_done (by kernel_rfl) ?_ _
        have HNS2 := Lib.hid (HNS.out.below HSX.out)
        clear HNS HSX
        go_wp2_with fail
        go_loopg [15] 64 (fun q i wz => ∃ z : Nat, 64 - z ≤ q ∧ z ≤ 64 ∧ i = .int .i64 z ∧ NS w wz gx ox cx gy oy cy T (lay2 n A).1 (lay2 m A).1 n m)
        case atStart => exact ⟨0, by omega, by omega, rfl, HNS2.out⟩
        case round =>
          obtain ⟨z, hq3, hz, rfl, hns⟩ := hrel
          have HNZ := Lib.hid hns
          clear hns HNS2
          by_cases hz64 : z < 64
          · have gz : decide ((z : Int) < 64) = true := decide_eq_true (by omega)
            have hcase : z = 2 ∨ z = 3 ∨ z = 4 ∨ z = 5 ∨ z < 2 ∨ 6 ≤ z := by omega
            rcases hcase with rfl | rfl | rfl | rfl | h2 | h6
            · have t := twin_le HTWX.out
              have cx := HNZ.out.x.cellAt HXX.out t.1
              have cy := HNZ.out.y.cellAt HYY.out t.2.2.2.2.1
              clear t gz
              go_wp2_with fail
              go_roundg (64 - (2 + 1))
              case measure => omega
              case rel => exact ⟨2 + 1, by omega, by omega, by go_num, HNZ.out⟩
            · have t := twin_le HTWX.out
              have cx := HNZ.out.x.cellAt HXX.out t.2.1
              have cy := HNZ.out.y.cellAt HYY.out t.2.2.2.2.2.1
              clear t gz
              go_wp2_with fail
              go_roundg (64 - (3 + 1))
              case measure => omega
              case rel => exact ⟨3 + 1, by omega, by omega, by go_num, HNZ.out⟩
            · have t := twin_le HTWX.out
              have cx := HNZ.out.x.cellAt HXX.out t.2.2.1
              have cy := HNZ.out.y.cellAt HYY.out t.2.2.2.2.2.2.1
              clear t gz
              go_wp2_with fail
              go_roundg (64 - (4 + 1))
              case measure => omega
              case rel => exact ⟨4 + 1, by omega, by omega, by go_num, HNZ.out⟩
            · have t := twin_le HTWX.out
              have cx := HNZ.out.x.cellAt HXX.out t.2.2.2.1
              have cy := HNZ.out.y.cellAt HYY.out t.2.2.2.2.2.2.2
              clear t gz
              go_wp2_with fail
              go_roundg (64 - (5 + 1))
              case measure => omega
              case rel => exact ⟨5 + 1, by omega, by omega, by go_num, HNZ.out⟩
            · have gz2 : decide (2 ≤ (z : Int)) = false := decide_eq_false (by omega)
              have gzk : (z : Int) < 64 := by omega
              have gzk2 : z < 64 := hz64
              have gkk : (k : Int) < (T : Int) := by omega
              have e := twin_eq HTWX.out (j := z) (by omega)
              have hxl := (HNZ.out.x.sc x (List.mem_of_getElem? HXX.out)).length
              obtain ⟨v, hv⟩ : ∃ v, x[z]? = some v := ⟨_, List.getElem?_eq_getElem (by rw [hxl]; exact hz64)⟩
              rw [hv] at e
              have HV := Lib.hid hv
              have HE := Lib.hid e.symm
              clear hv e hxl
              go_upto_region 24 with fail
              refine startH (fun wq => Below wr.heap.size wr wq) (by kernel_rfl) ?_
              have HSZ : Hid (Below wr.heap.size wr wr.drew) := Lib.hid (Below.refl _ _).drew
              generalize wr.drew = wU at *
              refine takeH 0 (some 120) (.slice (some ⟨gx, ox, none⟩) T cx) rfl rfl (by kernel_rfl) (by kernel_rfl) (by kernel_rfl) (fun _ _ _ h => h) rfl (fun wq hS => by go_simp) HSZ.out ?_
              try simp only [Act.put, List.setIfInBounds_toArray, List.set_cons_succ, List.set_cons_zero]
              refine takeH 1 (some 121) (.int .i64 k) rfl rfl (by kernel_rfl) (by kernel_rfl) (by kernel_rfl) (fun _ _ _ h => h) rfl (fun wq hS => by go_simp) HSZ.out ?_
              try simp only [Act.put, List.setIfInBounds_toArray, List.set_cons_succ, List.set_cons_zero]
              refine takeH 2 (some 122) (.int .i64 z) rfl rfl (by kernel_rfl) (by kernel_rfl) (by kernel_rfl) (fun _ _ _ h => h) rfl (fun wq hS => by go_simp) HSZ.out ?_
              try simp only [Act.put, List.setIfInBounds_toArray, List.set_cons_succ, List.set_cons_zero]
              refine takeH 3 (some 123) (.pointer (some ⟨gx, ox + k * 64, none⟩)) rfl rfl (by kernel_rfl) (by kernel_rfl) (by kernel_rfl) (fun _ _ _ h => h) rfl (fun wq hS => by go_simp) HSZ.out ?_
              try simp only [Act.put, List.setIfInBounds_toArray, List.set_cons_succ, List.set_cons_zero]
              refine takeH 4 (some 124) (.pointer (some ⟨gx, ox + k * 64 + z, none⟩)) rfl rfl (by kernel_rfl) (by kernel_rfl) (by kernel_rfl) (fun _ _ _ h => h) rfl (fun wq hS => by go_simp) HSZ.out ?_
              try simp only [Act.put, List.setIfInBounds_toArray, List.set_cons_succ, List.set_cons_zero]
              refine takeH 5 (some 125) (.int .u8 v) rfl rfl (by kernel_rfl) (by kernel_rfl) (by kernel_rfl) (fun _ _ _ h => h) rfl (fun wq hS => by have q := (HNZ.out.below hS).x.cellAt HXX.out HV.out; go_simp) HSZ.out ?_
              try simp only [Act.put, List.setIfInBounds_toArray, List.set_cons_succ, List.set_cons_zero]
              refine takeH 6 (some 126) (.slice (some ⟨gy, oy, none⟩) T cy) rfl rfl (by kernel_rfl) (by kernel_rfl) (by kernel_rfl) (fun _ _ _ h => h) rfl (fun wq hS => by go_simp) HSZ.out ?_
              try simp only [Act.put, List.setIfInBounds_toArray, List.set_cons_succ, List.set_cons_zero]
              refine takeH 7 (some 127) (.int .i64 k) rfl rfl (by kernel_rfl) (by kernel_rfl) (by kernel_rfl) (fun _ _ _ h => h) rfl (fun wq hS => by go_simp) HSZ.out ?_
              try simp only [Act.put, List.setIfInBounds_toArray, List.set_cons_succ, List.set_cons_zero]
              refine takeH 8 (some 128) (.int .i64 z) rfl rfl (by kernel_rfl) (by kernel_rfl) (by kernel_rfl) (fun _ _ _ h => h) rfl (fun wq hS => by go_simp) HSZ.out ?_
              try simp only [Act.put, List.setIfInBounds_toArray, List.set_cons_succ, List.set_cons_zero]
              refine takeH 9 (some 129) (.pointer (some ⟨gy, oy + k * 64, none⟩)) rfl rfl (by kernel_rfl) (by kernel_rfl) (by kernel_rfl) (fun _ _ _ h => h) rfl (fun wq hS => by go_simp) HSZ.out ?_
              try simp only [Act.put, List.setIfInBounds_toArray, List.set_cons_succ, List.set_cons_zero]
              refine takeH 10 (some 130) (.pointer (some ⟨gy, oy + k * 64 + z, none⟩)) rfl rfl (by kernel_rfl) (by kernel_rfl) (by kernel_rfl) (fun _ _ _ h => h) rfl (fun wq hS => by go_simp) HSZ.out ?_
              try simp only [Act.put, List.setIfInBounds_toArray, List.set_cons_succ, List.set_cons_zero]
              refine takeH 11 (some 131) (.int .u8 v) rfl rfl (by kernel_rfl) (by kernel_rfl) (by kernel_rfl) (fun _ _ _ h => h) rfl (fun wq hS => by have q := (HNZ.out.below hS).y.cellAt HYY.out HE.out; go_simp) HSZ.out ?_
              try simp only [Act.put, List.setIfInBounds_toArray, List.set_cons_succ, List.set_cons_zero]
              refine takeH 12 (some 132) (.bool false) rfl rfl (by kernel_rfl) (by kernel_rfl) (by kernel_rfl) (fun _ _ _ h => h) rfl (fun wq hS => by go_simp) HSZ.out ?_
              try simp only [Act.put, List.setIfInBounds_toArray, List.set_cons_succ, List.set_cons_zero]
              refine wpAnyH_done (by kernel_rfl) ?_ _
              go_wp2_with fail
              go_roundg (64 - (z + 1))
              case measure => omega
              case rel => exact ⟨z + 1, by omega, by omega, by go_num, HNZ.out.below HSZ.out⟩
            · have gz2 : decide (2 ≤ (z : Int)) = true := decide_eq_true (by omega)
              have gz5 : decide ((z : Int) ≤ 5) = false := decide_eq_false (by omega)
              have gzk : (z : Int) < 64 := by omega
              have gzk2 : z < 64 := hz64
              have gkk : (k : Int) < (T : Int) := by omega
              have e := twin_eq HTWX.out (j := z) (by omega)
              have hxl := (HNZ.out.x.sc x (List.mem_of_getElem? HXX.out)).length
              obtain ⟨v, hv⟩ : ∃ v, x[z]? = some v := ⟨_, List.getElem?_eq_getElem (by rw [hxl]; exact hz64)⟩
              rw [hv] at e
              have HV := Lib.hid hv
              have HE := Lib.hid e.symm
              clear hv e hxl
              go_upto_region 24 with fail
              refine startH (fun wq => Below wr.heap.size wr wq) (by kernel_rfl) ?_
              have HSZ : Hid (Below wr.heap.size wr wr.drew) := Lib.hid (Below.refl _ _).drew
              generalize wr.drew = wU at *
              refine takeH 0 (some 120) (.slice (some ⟨gx, ox, none⟩) T cx) rfl rfl (by kernel_rfl) (by kernel_rfl) (by kernel_rfl) (fun _ _ _ h => h) rfl (fun wq hS => by go_simp) HSZ.out ?_
              try simp only [Act.put, List.setIfInBounds_toArray, List.set_cons_succ, List.set_cons_zero]
              refine takeH 1 (some 121) (.int .i64 k) rfl rfl (by kernel_rfl) (by kernel_rfl) (by kernel_rfl) (fun _ _ _ h => h) rfl (fun wq hS => by go_simp) HSZ.out ?_
              try simp only [Act.put, List.setIfInBounds_toArray, List.set_cons_succ, List.set_cons_zero]
              refine takeH 2 (some 122) (.int .i64 z) rfl rfl (by kernel_rfl) (by kernel_rfl) (by kernel_rfl) (fun _ _ _ h => h) rfl (fun wq hS => by go_simp) HSZ.out ?_
              try simp only [Act.put, List.setIfInBounds_toArray, List.set_cons_succ, List.set_cons_zero]
              refine takeH 3 (some 123) (.pointer (some ⟨gx, ox + k * 64, none⟩)) rfl rfl (by kernel_rfl) (by kernel_rfl) (by kernel_rfl) (fun _ _ _ h => h) rfl (fun wq hS => by go_simp) HSZ.out ?_
              try simp only [Act.put, List.setIfInBounds_toArray, List.set_cons_succ, List.set_cons_zero]
              refine takeH 4 (some 124) (.pointer (some ⟨gx, ox + k * 64 + z, none⟩)) rfl rfl (by kernel_rfl) (by kernel_rfl) (by kernel_rfl) (fun _ _ _ h => h) rfl (fun wq hS => by go_simp) HSZ.out ?_
              try simp only [Act.put, List.setIfInBounds_toArray, List.set_cons_succ, List.set_cons_zero]
              refine takeH 5 (some 125) (.int .u8 v) rfl rfl (by kernel_rfl) (by kernel_rfl) (by kernel_rfl) (fun _ _ _ h => h) rfl (fun wq hS => by have q := (HNZ.out.below hS).x.cellAt HXX.out HV.out; go_simp) HSZ.out ?_
              try simp only [Act.put, List.setIfInBounds_toArray, List.set_cons_succ, List.set_cons_zero]
              refine takeH 6 (some 126) (.slice (some ⟨gy, oy, none⟩) T cy) rfl rfl (by kernel_rfl) (by kernel_rfl) (by kernel_rfl) (fun _ _ _ h => h) rfl (fun wq hS => by go_simp) HSZ.out ?_
              try simp only [Act.put, List.setIfInBounds_toArray, List.set_cons_succ, List.set_cons_zero]
              refine takeH 7 (some 127) (.int .i64 k) rfl rfl (by kernel_rfl) (by kernel_rfl) (by kernel_rfl) (fun _ _ _ h => h) rfl (fun wq hS => by go_simp) HSZ.out ?_
              try simp only [Act.put, List.setIfInBounds_toArray, List.set_cons_succ, List.set_cons_zero]
              refine takeH 8 (some 128) (.int .i64 z) rfl rfl (by kernel_rfl) (by kernel_rfl) (by kernel_rfl) (fun _ _ _ h => h) rfl (fun wq hS => by go_simp) HSZ.out ?_
              try simp only [Act.put, List.setIfInBounds_toArray, List.set_cons_succ, List.set_cons_zero]
              refine takeH 9 (some 129) (.pointer (some ⟨gy, oy + k * 64, none⟩)) rfl rfl (by kernel_rfl) (by kernel_rfl) (by kernel_rfl) (fun _ _ _ h => h) rfl (fun wq hS => by go_simp) HSZ.out ?_
              try simp only [Act.put, List.setIfInBounds_toArray, List.set_cons_succ, List.set_cons_zero]
              refine takeH 10 (some 130) (.pointer (some ⟨gy, oy + k * 64 + z, none⟩)) rfl rfl (by kernel_rfl) (by kernel_rfl) (by kernel_rfl) (fun _ _ _ h => h) rfl (fun wq hS => by go_simp) HSZ.out ?_
              try simp only [Act.put, List.setIfInBounds_toArray, List.set_cons_succ, List.set_cons_zero]
              refine takeH 11 (some 131) (.int .u8 v) rfl rfl (by kernel_rfl) (by kernel_rfl) (by kernel_rfl) (fun _ _ _ h => h) rfl (fun wq hS => by have q := (HNZ.out.below hS).y.cellAt HYY.out HE.out; go_simp) HSZ.out ?_
              try simp only [Act.put, List.setIfInBounds_toArray, List.set_cons_succ, List.set_cons_zero]
              refine takeH 12 (some 132) (.bool false) rfl rfl (by kernel_rfl) (by kernel_rfl) (by kernel_rfl) (fun _ _ _ h => h) rfl (fun wq hS => by go_simp) HSZ.out ?_
              try simp only [Act.put, List.setIfInBounds_toArray, List.set_cons_succ, List.set_cons_zero]
              refine wpAnyH_done (by kernel_rfl) ?_ _
              go_wp2_with fail
              go_roundg (64 - (z + 1))
              case measure => omega
              case rel => exact ⟨z + 1, by omega, by omega, by go_num, HNZ.out.below HSZ.out⟩
          · obtain rfl : z = 64 := by omega
            go_wp2_with fail
            go_roundg (T - (k + 1))
            case measure => omega
            case rel => exact ⟨k + 1, by omega, by omega, by go_num, by rw [HC.out]; go_num, HNZ.out⟩
      · have hcj : cnt ((lay2 n A).1.take k) = j + 1 := by rw [h83, decide_eq_false e83] at hs; simp at hs; omega
        rw [hcj]
        clear hs h83 hcj
        have ge : decide (v0 = 83) = false := decide_eq_false e83
        rw [show (((j + 1 : Nat) : Int) - 1) = (j : Int) by omega]

        go_upto_region 17 with fail
        refine startH (fun wq => Below wr.heap.size wr wq) (by kernel_rfl) ?_
        have HSX : Hid (Below wr.heap.size wr wr.drew) := Lib.hid (Below.refl _ _).drew
        generalize wr.drew = wS at *
        refine takeH 0 (some 70) (.pointer (some ⟨w.heap.size, 0, none⟩)) rfl rfl (by kernel_rfl) (by kernel_rfl) (by kernel_rfl) (fun _ _ _ h => h) rfl (fun wq hS => by go_simp) HSX.out ?_
        try simp only [Act.put, List.setIfInBounds_toArray, List.set_cons_succ, List.set_cons_zero]
        refine takeH 1 (some 71) (.int .u32 n) rfl rfl (by kernel_rfl) (by kernel_rfl) (by kernel_rfl) (fun _ _ _ h => h) rfl (fun wq hS => by have q : wq.cell? ⟨w.heap.size, 0, none⟩ = some (.int .u32 n) := (HNS.out.below hS).b.cell rfl; go_simp) HSX.out ?_
        try simp only [Act.put, List.setIfInBounds_toArray, List.set_cons_succ, List.set_cons_zero]
        refine takeH 2 (some 72) (.int .i64 j) rfl rfl (by kernel_rfl) (by kernel_rfl) (by kernel_rfl) (fun _ _ _ h => h) rfl (fun wq hS => by go_simp) HSX.out ?_
        try simp only [Act.put, List.setIfInBounds_toArray, List.set_cons_succ, List.set_cons_zero]
        refine takeH 3 (some 73) (.int .u32 j) rfl rfl (by kernel_rfl) (by kernel_rfl) (by kernel_rfl) (fun _ _ _ h => h) rfl (fun wq hS => by have g := GJ.out; go_simp) HSX.out ?_
        try simp only [Act.put, List.setIfInBounds_toArray, List.set_cons_succ, List.set_cons_zero]
        refine takeH 4 (some 74) (.int .u32 p) rfl rfl (by kernel_rfl) (by kernel_rfl) (by kernel_rfl) (fun _ _ _ h => h) rfl (fun wq hS => by have g := GP.out; go_simp) HSX.out ?_
        try simp only [Act.put, List.setIfInBounds_toArray, List.set_cons_succ, List.set_cons_zero]
        refine takeH 10 (some 13) (.int .u32 p) rfl rfl (by kernel_rfl) (by kernel_rfl) (by kernel_rfl) (fun _ _ _ h => h) rfl (fun wq hS => by go_simp) HSX.out ?_
        try simp only [Act.put, List.setIfInBounds_toArray, List.set_cons_succ, List.set_cons_zero]
        refine takeH 5 (some 75) (.pointer (some ⟨w.heap.size, 1, none⟩)) rfl rfl (by kernel_rfl) (by kernel_rfl) (by kernel_rfl) (fun _ _ _ h => h) rfl (fun wq hS => by go_simp) HSX.out ?_
        try simp only [Act.put, List.setIfInBounds_toArray, List.set_cons_succ, List.set_cons_zero]
        refine takeH 6 (some 76) (.int .u32 m) rfl rfl (by kernel_rfl) (by kernel_rfl) (by kernel_rfl) (fun _ _ _ h => h) rfl (fun wq hS => by have q : wq.cell? ⟨w.heap.size, 1, none⟩ = some (.int .u32 m) := (HNS.out.below hS).b.cell rfl; go_simp) HSX.out ?_
        try simp only [Act.put, List.setIfInBounds_toArray, List.set_cons_succ, List.set_cons_zero]
        refine takeH 7 (some 77) (.int .i64 j) rfl rfl (by kernel_rfl) (by kernel_rfl) (by kernel_rfl) (fun _ _ _ h => h) rfl (fun wq hS => by go_simp) HSX.out ?_
        try simp only [Act.put, List.setIfInBounds_toArray, List.set_cons_succ, List.set_cons_zero]
        refine takeH 8 (some 78) (.int .u32 j) rfl rfl (by kernel_rfl) (by kernel_rfl) (by kernel_rfl) (fun _ _ _ h => h) rfl (fun wq hS => by have g := GJ.out; go_simp) HSX.out ?_
        try simp only [Act.put, List.setIfInBounds_toArray, List.set_cons_succ, List.set_cons_zero]
        refine takeH 9 (some 79) (.int .u32 q1) rfl rfl (by kernel_rfl) (by kernel_rfl) (by kernel_rfl) (fun _ _ _ h => h) rfl (fun wq hS => by have g := GQ.out; go_simp) HSX.out ?_
        try simp only [Act.put, List.setIfInBounds_toArray, List.set_cons_succ, List.set_cons_zero]
        refine takeH 11 (some 14) (.int .u32 q1) rfl rfl (by kernel_rfl) (by kernel_rfl) (by kernel_rfl) (fun _ _ _ h => h) rfl (fun wq hS => by go_simp) HSX.out ?_
        try simp only [Act.put, List.setIfInBounds_toArray, List.set_cons_succ, List.set_cons_zero]
        refine wpAnyH_done (by kernel_rfl) ?_ _
        have HNS2 := Lib.hid (HNS.out.below HSX.out)
        clear HNS HSX
        go_wp2_with fail
        go_loopg [15] 64 (fun q i wz => ∃ z : Nat, 64 - z ≤ q ∧ z ≤ 64 ∧ i = .int .i64 z ∧ NS w wz gx ox cx gy oy cy T (lay2 n A).1 (lay2 m A).1 n m)
        case atStart => exact ⟨0, by omega, by omega, rfl, HNS2.out⟩
        case round =>
          obtain ⟨z, hq3, hz, rfl, hns⟩ := hrel
          have HNZ := Lib.hid hns
          clear hns HNS2
          by_cases hz64 : z < 64
          · have gz : decide ((z : Int) < 64) = true := decide_eq_true (by omega)
            have hcase : z = 2 ∨ z = 3 ∨ z = 4 ∨ z = 5 ∨ z < 2 ∨ 6 ≤ z := by omega
            rcases hcase with rfl | rfl | rfl | rfl | h2 | h6
            · have t := twin_le HTWX.out
              have cx := HNZ.out.x.cellAt HXX.out t.1
              have cy := HNZ.out.y.cellAt HYY.out t.2.2.2.2.1
              clear t gz
              go_wp2_with fail
              go_roundg (64 - (2 + 1))
              case measure => omega
              case rel => exact ⟨2 + 1, by omega, by omega, by go_num, HNZ.out⟩
            · have t := twin_le HTWX.out
              have cx := HNZ.out.x.cellAt HXX.out t.2.1
              have cy := HNZ.out.y.cellAt HYY.out t.2.2.2.2.2.1
              clear t gz
              go_wp2_with fail
              go_roundg (64 - (3 + 1))
              case measure => omega
              case rel => exact ⟨3 + 1, by omega, by omega, by go_num, HNZ.out⟩
            · have t := twin_le HTWX.out
              have cx := HNZ.out.x.cellAt HXX.out t.2.2.1
              have cy := HNZ.out.y.cellAt HYY.out t.2.2.2.2.2.2.1
              clear t gz
              go_wp2_with fail
              go_roundg (64 - (4 + 1))
              case measure => omega
              case rel => exact ⟨4 + 1, by omega, by omega, by go_num, HNZ.out⟩
            · have t := twin_le HTWX.out
              have cx := HNZ.out.x.cellAt HXX.out t.2.2.2.1
              have cy := HNZ.out.y.cellAt HYY.out t.2.2.2.2.2.2.2
              clear t gz
              go_wp2_with fail
              go_roundg (64 - (5 + 1))
              case measure => omega
              case rel => exact ⟨5 + 1, by omega, by omega, by go_num, HNZ.out⟩
            · have gz2 : decide (2 ≤ (z : Int)) = false := decide_eq_false (by omega)
              have gzk : (z : Int) < 64 := by omega
              have gzk2 : z < 64 := hz64
              have gkk : (k : Int) < (T : Int) := by omega
              have e := twin_eq HTWX.out (j := z) (by omega)
              have hxl := (HNZ.out.x.sc x (List.mem_of_getElem? HXX.out)).length
              obtain ⟨v, hv⟩ : ∃ v, x[z]? = some v := ⟨_, List.getElem?_eq_getElem (by rw [hxl]; exact hz64)⟩
              rw [hv] at e
              have HV := Lib.hid hv
              have HE := Lib.hid e.symm
              clear hv e hxl
              go_upto_region 24 with fail
              refine startH (fun wq => Below wr.heap.size wr wq) (by kernel_rfl) ?_
              have HSZ : Hid (Below wr.heap.size wr wr.drew) := Lib.hid (Below.refl _ _).drew
              generalize wr.drew = wU at *
              refine takeH 0 (some 120) (.slice (some ⟨gx, ox, none⟩) T cx) rfl rfl (by kernel_rfl) (by kernel_rfl) (by kernel_rfl) (fun _ _ _ h => h) rfl (fun wq hS => by go_simp) HSZ.out ?_
              try simp only [Act.put, List.setIfInBounds_toArray, List.set_cons_succ, List.set_cons_zero]
              refine takeH 1 (some 121) (.int .i64 k) rfl rfl (by kernel_rfl) (by kernel_rfl) (by kernel_rfl) (fun _ _ _ h => h) rfl (fun wq hS => by go_simp) HSZ.out ?_
              try simp only [Act.put, List.setIfInBounds_toArray, List.set_cons_succ, List.set_cons_zero]
              refine takeH 2 (some 122) (.int .i64 z) rfl rfl (by kernel_rfl) (by kernel_rfl) (by kernel_rfl) (fun _ _ _ h => h) rfl (fun wq hS => by go_simp) HSZ.out ?_
              try simp only [Act.put, List.setIfInBounds_toArray, List.set_cons_succ, List.set_cons_zero]
              refine takeH 3 (some 123) (.pointer (some ⟨gx, ox + k * 64, none⟩)) rfl rfl (by kernel_rfl) (by kernel_rfl) (by kernel_rfl) (fun _ _ _ h => h) rfl (fun wq hS => by go_simp) HSZ.out ?_
              try simp only [Act.put, List.setIfInBounds_toArray, List.set_cons_succ, List.set_cons_zero]
              refine takeH 4 (some 124) (.pointer (some ⟨gx, ox + k * 64 + z, none⟩)) rfl rfl (by kernel_rfl) (by kernel_rfl) (by kernel_rfl) (fun _ _ _ h => h) rfl (fun wq hS => by go_simp) HSZ.out ?_
              try simp only [Act.put, List.setIfInBounds_toArray, List.set_cons_succ, List.set_cons_zero]
              refine takeH 5 (some 125) (.int .u8 v) rfl rfl (by kernel_rfl) (by kernel_rfl) (by kernel_rfl) (fun _ _ _ h => h) rfl (fun wq hS => by have q := (HNZ.out.below hS).x.cellAt HXX.out HV.out; go_simp) HSZ.out ?_
              try simp only [Act.put, List.setIfInBounds_toArray, List.set_cons_succ, List.set_cons_zero]
              refine takeH 6 (some 126) (.slice (some ⟨gy, oy, none⟩) T cy) rfl rfl (by kernel_rfl) (by kernel_rfl) (by kernel_rfl) (fun _ _ _ h => h) rfl (fun wq hS => by go_simp) HSZ.out ?_
              try simp only [Act.put, List.setIfInBounds_toArray, List.set_cons_succ, List.set_cons_zero]
              refine takeH 7 (some 127) (.int .i64 k) rfl rfl (by kernel_rfl) (by kernel_rfl) (by kernel_rfl) (fun _ _ _ h => h) rfl (fun wq hS => by go_simp) HSZ.out ?_
              try simp only [Act.put, List.setIfInBounds_toArray, List.set_cons_succ, List.set_cons_zero]
              refine takeH 8 (some 128) (.int .i64 z) rfl rfl (by kernel_rfl) (by kernel_rfl) (by kernel_rfl) (fun _ _ _ h => h) rfl (fun wq hS => by go_simp) HSZ.out ?_
              try simp only [Act.put, List.setIfInBounds_toArray, List.set_cons_succ, List.set_cons_zero]
              refine takeH 9 (some 129) (.pointer (some ⟨gy, oy + k * 64, none⟩)) rfl rfl (by kernel_rfl) (by kernel_rfl) (by kernel_rfl) (fun _ _ _ h => h) rfl (fun wq hS => by go_simp) HSZ.out ?_
              try simp only [Act.put, List.setIfInBounds_toArray, List.set_cons_succ, List.set_cons_zero]
              refine takeH 10 (some 130) (.pointer (some ⟨gy, oy + k * 64 + z, none⟩)) rfl rfl (by kernel_rfl) (by kernel_rfl) (by kernel_rfl) (fun _ _ _ h => h) rfl (fun wq hS => by go_simp) HSZ.out ?_
              try simp only [Act.put, List.setIfInBounds_toArray, List.set_cons_succ, List.set_cons_zero]
              refine takeH 11 (some 131) (.int .u8 v) rfl rfl (by kernel_rfl) (by kernel_rfl) (by kernel_rfl) (fun _ _ _ h => h) rfl (fun wq hS => by have q := (HNZ.out.below hS).y.cellAt HYY.out HE.out; go_simp) HSZ.out ?_
              try simp only [Act.put, List.setIfInBounds_toArray, List.set_cons_succ, List.set_cons_zero]
              refine takeH 12 (some 132) (.bool false) rfl rfl (by kernel_rfl) (by kernel_rfl) (by kernel_rfl) (fun _ _ _ h => h) rfl (fun wq hS => by go_simp) HSZ.out ?_
              try simp only [Act.put, List.setIfInBounds_toArray, List.set_cons_succ, List.set_cons_zero]
              refine wpAnyH_done (by kernel_rfl) ?_ _
              go_wp2_with fail
              go_roundg (64 - (z + 1))
              case measure => omega
              case rel => exact ⟨z + 1, by omega, by omega, by go_num, HNZ.out.below HSZ.out⟩
            · have gz2 : decide (2 ≤ (z : Int)) = true := decide_eq_true (by omega)
              have gz5 : decide ((z : Int) ≤ 5) = false := decide_eq_false (by omega)
              have gzk : (z : Int) < 64 := by omega
              have gzk2 : z < 64 := hz64
              have gkk : (k : Int) < (T : Int) := by omega
              have e := twin_eq HTWX.out (j := z) (by omega)
              have hxl := (HNZ.out.x.sc x (List.mem_of_getElem? HXX.out)).length
              obtain ⟨v, hv⟩ : ∃ v, x[z]? = some v := ⟨_, List.getElem?_eq_getElem (by rw [hxl]; exact hz64)⟩
              rw [hv] at e
              have HV := Lib.hid hv
              have HE := Lib.hid e.symm
              clear hv e hxl
              go_upto_region 24 with fail
              refine startH (fun wq => Below wr.heap.size wr wq) (by kernel_rfl) ?_
              have HSZ : Hid (Below wr.heap.size wr wr.drew) := Lib.hid (Below.refl _ _).drew
              generalize wr.drew = wU at *
              refine takeH 0 (some 120) (.slice (some ⟨gx, ox, none⟩) T cx) rfl rfl (by kernel_rfl) (by kernel_rfl) (by kernel_rfl) (fun _ _ _ h => h) rfl (fun wq hS => by go_simp) HSZ.out ?_
              try simp only [Act.put, List.setIfInBounds_toArray, List.set_cons_succ, List.set_cons_zero]
              refine takeH 1 (some 121) (.int .i64 k) rfl rfl (by kernel_rfl) (by kernel_rfl) (by kernel_rfl) (fun _ _ _ h => h) rfl (fun wq hS => by go_simp) HSZ.out ?_
              try simp only [Act.put, List.setIfInBounds_toArray, List.set_cons_succ, List.set_cons_zero]
              refine takeH 2 (some 122) (.int .i64 z) rfl rfl (by kernel_rfl) (by kernel_rfl) (by kernel_rfl) (fun _ _ _ h => h) rfl (fun wq hS => by go_simp) HSZ.out ?_
              try simp only [Act.put, List.setIfInBounds_toArray, List.set_cons_succ, List.set_cons_zero]
              refine takeH 3 (some 123) (.pointer (some ⟨gx, ox + k * 64, none⟩)) rfl rfl (by kernel_rfl) (by kernel_rfl) (by kernel_rfl) (fun _ _ _ h => h) rfl (fun wq hS => by go_simp) HSZ.out ?_
              try simp only [Act.put, List.setIfInBounds_toArray, List.set_cons_succ, List.set_cons_zero]
              refine takeH 4 (some 124) (.pointer (some ⟨gx, ox + k * 64 + z, none⟩)) rfl rfl (by kernel_rfl) (by kernel_rfl) (by kernel_rfl) (fun _ _ _ h => h) rfl (fun wq hS => by go_simp) HSZ.out ?_
              try simp only [Act.put, List.setIfInBounds_toArray, List.set_cons_succ, List.set_cons_zero]
              refine takeH 5 (some 125) (.int .u8 v) rfl rfl (by kernel_rfl) (by kernel_rfl) (by kernel_rfl) (fun _ _ _ h => h) rfl (fun wq hS => by have q := (HNZ.out.below hS).x.cellAt HXX.out HV.out; go_simp) HSZ.out ?_
              try simp only [Act.put, List.setIfInBounds_toArray, List.set_cons_succ, List.set_cons_zero]
              refine takeH 6 (some 126) (.slice (some ⟨gy, oy, none⟩) T cy) rfl rfl (by kernel_rfl) (by kernel_rfl) (by kernel_rfl) (fun _ _ _ h => h) rfl (fun wq hS => by go_simp) HSZ.out ?_
              try simp only [Act.put, List.setIfInBounds_toArray, List.set_cons_succ, List.set_cons_zero]
              refine takeH 7 (some 127) (.int .i64 k) rfl rfl (by kernel_rfl) (by kernel_rfl) (by kernel_rfl) (fun _ _ _ h => h) rfl (fun wq hS => by go_simp) HSZ.out ?_
              try simp only [Act.put, List.setIfInBounds_toArray, List.set_cons_succ, List.set_cons_zero]
              refine takeH 8 (some 128) (.int .i64 z) rfl rfl (by kernel_rfl) (by kernel_rfl) (by kernel_rfl) (fun _ _ _ h => h) rfl (fun wq hS => by go_simp) HSZ.out ?_
              try simp only [Act.put, List.setIfInBounds_toArray, List.set_cons_succ, List.set_cons_zero]
              refine takeH 9 (some 129) (.pointer (some ⟨gy, oy + k * 64, none⟩)) rfl rfl (by kernel_rfl) (by kernel_rfl) (by kernel_rfl) (fun _ _ _ h => h) rfl (fun wq hS => by go_simp) HSZ.out ?_
              try simp only [Act.put, List.setIfInBounds_toArray, List.set_cons_succ, List.set_cons_zero]
              refine takeH 10 (some 130) (.pointer (some ⟨gy, oy + k * 64 + z, none⟩)) rfl rfl (by kernel_rfl) (by kernel_rfl) (by kernel_rfl) (fun _ _ _ h => h) rfl (fun wq hS => by go_simp) HSZ.out ?_
              try simp only [Act.put, List.setIfInBounds_toArray, List.set_cons_succ, List.set_cons_zero]
              refine takeH 11 (some 131) (.int .u8 v) rfl rfl (by kernel_rfl) (by kernel_rfl) (by kernel_rfl) (fun _ _ _ h => h) rfl (fun wq hS => by have q := (HNZ.out.below hS).y.cellAt HYY.out HE.out; go_simp) HSZ.out ?_
              try simp only [Act.put, List.setIfInBounds_toArray, List.set_cons_succ, List.set_cons_zero]
              refine takeH 12 (some 132) (.bool false) rfl rfl (by kernel_rfl) (by kernel_rfl) (by kernel_rfl) (fun _ _ _ h => h) rfl (fun wq hS => by go_simp) HSZ.out ?_
              try simp only [Act.put, List.setIfInBounds_toArray, List.set_cons_succ, List.set_cons_zero]
              refine wpAnyH_done (by kernel_rfl) ?_ _
              go_wp2_with fail
              go_roundg (64 - (z + 1))
              case measure => omega
              case rel => exact ⟨z + 1, by omega, by omega, by go_num, HNZ.out.below HSZ.out⟩
          · obtain rfl : z = 64 := by omega
            go_wp2_with fail
            go_roundg (T - (k + 1))
            case measure => omega
            case rel => exact ⟨k + 1, by omega, by omega, by go_num, by rw [HC.out]; go_num, HNZ.out⟩
    · obtain rfl : k = T := by omega
      have hct : cnt ((lay2 n A).1.take k) = P := by
        rw [List.take_of_length_le (by rw [HT.out]; exact Nat.le_refl _)]
        exact HTW.out.1
      rw [hct]
      have gk : decide ((k : Int) < (k : Int)) = false := decide_eq_false (by omega)
      have hp3 := HP3.out
      have gw : IntKind.i64.wrap ((P : Int) - 1 + 1) = (P : Int) := by rw [show (P : Int) - 1 + 1 = P by omega]; exact wrap64 (by omega) (by omega)
      have gw2 : IntKind.i64.wrap (P : Int) = (P : Int) := wrap64 (by omega) (by omega)
      clear hct hp3
      go_wp2_with fail
      refine (HPA.out _ (HIA.out.below HNS.out.l)).mono ?_
      rintro e w5 ⟨rfl, hb⟩
      have HB5 := Lib.hid (stay HNS.out.l hb)
      clear hb
      go_wp2_with fail
      refine (HWK.out _).mono ?_
      rintro e w6 ⟨rfl, hb⟩
      have HB6 := Lib.hid (stay HB5.out hb)
      clear hb
      go_wp2_with fail
      go_ret
      exact ⟨rfl, HB6.out⟩

end Go.Proofs.Ytbhaifdhmfmeoaa
