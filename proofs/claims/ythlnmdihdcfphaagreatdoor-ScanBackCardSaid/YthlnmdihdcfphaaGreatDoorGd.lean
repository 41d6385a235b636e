/- Gd: texts of elder seats turned: what the stage needs of them. -/
import Derived.Test.YthlnmdihdcfphaaGreatDoorGb
import Derived.Lib.EndianBits
import Derived.OrdersHeld
import Derived.Deep.Upon
import Derived.Lib.AppendZeros
import Derived.Deep.Cut
import Derived.Deep.CutRange
namespace Go.Proofs.YthlnmdihdcfphaaGreatDoor
set_option linter.unusedSimpArgs false
set_option linter.unusedVariables false
open Go.RowKit

/-- A mark: its kind, its number. -/
abbrev Mk := Int × Int
/-- A summary. -/
structure Sm where
  seq : Int
  more : Bool
  marks : List Mk
/-- Each field is of its type. -/
structure Sm.Wf (s : Sm) : Prop where
  seq : 0 ≤ s.seq ∧ s.seq < 4294967296
  marks : ∀ m ∈ s.marks, Small m.1 ∧ Small m.2
theorem zeros_byte (n : Nat) : ∀ x ∈ zeros n, Byte x := fun x hx => by
  rw [List.eq_of_mem_replicate hx]
  exact ⟨by decide, by decide⟩
def kindIds (n : Int) : Int := if n = 3 then 8 else if 1 ≤ n ∧ n ≤ 5 then 64 else 0
def hasBlock (n : Int) : Bool := decide (1 ≤ n) && decide (n ≤ 3)
/-- May a mark be? -/
def okMark (m : Mk) : Bool := decide (0 ≤ m.2) && decide (m.2 < kindIds m.1)
def blocks : List Mk → Nat
  | [] => 0
  | m :: l => (if hasBlock m.1 then 1 else 0) + blocks l
def goodMarks (l : List Mk) : Bool := decide (1 ≤ l.length) && decide (l.length ≤ 24) && l.all okMark
def Sm.good (s : Sm) : Bool := goodMarks s.marks
theorem okMark_iff {m : Mk} : okMark m = true ↔ (1 ≤ m.1 ∧ m.1 ≤ 5 ∧ 0 ≤ m.2 ∧ m.2 < 64 ∧ (m.1 = 3 → m.2 < 8)) := by
  have hk : kindIds m.1 = if m.1 = 3 then 8 else if 1 ≤ m.1 ∧ m.1 ≤ 5 then 64 else 0 := rfl
  unfold okMark
  generalize kindIds m.1 = n at *
  simp only [Bool.and_eq_true, decide_eq_true_eq]
  split at hk
  · omega
  · split at hk <;> omega
theorem blocks_le (l : List Mk) : blocks l ≤ l.length := by
  induction l with
  | nil => simp [blocks]
  | cons m l ih =>
    simp only [blocks, List.length_cons]
    split <;> omega
theorem blocks_append (l m : List Mk) : blocks (l ++ m) = blocks l + blocks m := by
  induction l with
  | nil => simp [blocks]
  | cons x l ih =>
    simp only [List.cons_append, blocks, ih]
    omega
/-- Marks as numbers, one behind the other. -/
def flat : List Mk → List Int
  | [] => []
  | m :: l => m.1 :: m.2 :: flat l
theorem sflat_length (l : List Mk) : (flat l).length = 2 * l.length := by
  induction l with
  | nil => rfl
  | cons m l ih => simp only [flat, List.length_cons, ih]; omega
theorem flat_append (l m : List Mk) : flat (l ++ m) = flat l ++ flat m := by
  induction l with
  | nil => rfl
  | cons x l ih => simp [flat, ih]
theorem flat_fst (l : List Mk) (i : Nat) : (flat l)[2 * i]? = l[i]?.map Prod.fst := by
  induction l generalizing i with
  | nil => simp [flat]
  | cons m l ih =>
    cases i with
    | zero => simp [flat]
    | succ i =>
      rw [show 2 * (i + 1) = 2 * i + 1 + 1 by omega]
      simp only [flat, List.getElem?_cons_succ, ih]
theorem flat_snd (l : List Mk) (i : Nat) : (flat l)[2 * i + 1]? = l[i]?.map Prod.snd := by
  induction l generalizing i with
  | nil => simp [flat]
  | cons m l ih =>
    cases i with
    | zero => simp [flat]
    | succ i =>
      rw [show 2 * (i + 1) + 1 = 2 * i + 1 + 1 + 1 by omega]
      simp only [flat, List.getElem?_cons_succ, ih]
theorem flat_snoc {l : List Mk} {k : Nat} {m : Mk} (h : l[k]? = some m) : flat (l.take (k + 1)) = flat (l.take k) ++ [m.1, m.2] := by
  rw [List.take_add_one, h, flat_append]
  simp [flat]
def bit (b : Bool) : Int := if b then 1 else 0
theorem bit_range (b : Bool) : 0 ≤ bit b ∧ bit b ≤ 1 := by cases b <;> simp [bit]
/-- All ahead of the marks. -/
def Sm.pre (s : Sm) : List Int := 83 :: bit s.more :: (le 4 s.seq ++ [(s.marks.length : Int)])
theorem pre_length (s : Sm) : s.pre.length = 7 := by simp [Sm.pre, le_length]
/-- A summary's sector. -/
def Sm.enc (s : Sm) : List Int := s.pre ++ (flat s.marks ++ zeros (57 - 2 * s.marks.length))
def Sm.sec (s : Sm) : List Int := if s.good then s.enc else zeros 64
def Sm.err (s : Sm) : Int := if s.good then 0 else 11
def Sm.none : Sm := ⟨0, false, []⟩
theorem good_len {l : List Mk} (h : goodMarks l = true) : 1 ≤ l.length ∧ l.length ≤ 24 := by
  simp only [goodMarks, Bool.and_eq_true, decide_eq_true_eq] at h
  exact h.1
theorem good_ok {l : List Mk} (h : goodMarks l = true) : ∀ m ∈ l, okMark m = true := by
  simp only [goodMarks, Bool.and_eq_true, List.all_eq_true] at h
  exact h.2
theorem good_byte {l : List Mk} (h : goodMarks l = true) : ∀ m ∈ l, Byte m.1 ∧ Byte m.2 := fun m hm => by
  have := okMark_iff.1 (good_ok h m hm)
  exact ⟨⟨by omega, by omega⟩, ⟨by omega, by omega⟩⟩
theorem flat_byte {l : List Mk} (h : ∀ m ∈ l, Byte m.1 ∧ Byte m.2) : ∀ x ∈ flat l, Byte x := by
  induction l with
  | nil => intro x hx; cases hx
  | cons m l ih =>
    intro x hx
    simp only [flat, List.mem_cons] at hx
    rcases hx with rfl | rfl | hx
    · exact (h m (by simp)).1
    · exact (h m (by simp)).2
    · exact ih (fun y hy => h y (by simp [hy])) x hx
theorem senc_length {s : Sm} (h : s.good = true) : s.enc.length = 64 := by
  have := good_len h
  simp only [Sm.enc, List.length_append, pre_length, sflat_length, zeros_length]
  omega
theorem ssec_length (s : Sm) : s.sec.length = 64 := by
  unfold Sm.sec
  split
  · exact senc_length ‹_›
  · exact zeros_length _
theorem senc_byte {s : Sm} (h : s.good = true) : ∀ x ∈ s.enc, Byte x := by
  have hl := good_len h
  have hb := bit_range s.more
  intro x hx
  simp only [Sm.enc, Sm.pre, List.mem_append, List.mem_cons, List.not_mem_nil, or_false, List.cons_append] at hx
  rcases hx with rfl | rfl | (hx | rfl) | hx | hx
  · exact ⟨by decide, by decide⟩
  · exact ⟨hb.1, by omega⟩
  · exact le_byte _ _ x hx
  · exact ⟨by omega, by omega⟩
  · exact flat_byte (good_byte h) x hx
  · exact zeros_byte _ x hx
theorem senc_sc {s : Sm} (h : s.good = true) : Sc s.enc := ⟨senc_length h, senc_byte h⟩
theorem sec_sc (s : Sm) : Sc s.sec := by
  unfold Sm.sec
  split
  · exact senc_sc ‹_›
  · exact ⟨zeros_length _, zeros_byte _⟩
/-- A slice whose marks are l. -/
def MarksAt (w : World) (sv : Value) (l : List Mk) : Prop := ∃ a cap, sv = .slice a l.length cap ∧ ∀ i m, l[i]? = some m → ∃ b o, a = some ⟨b, o, none⟩ ∧ w.cell? ⟨b, o + i * 2, none⟩ = some (.int .i64 m.1) ∧ w.cell? ⟨b, o + i * 2 + 1, none⟩ = some (.int .i64 m.2)
theorem MarksAt.below {w w' : World} {sv : Value} {l : List Mk} (h : MarksAt w sv l) (hb : Below w.heap.size w w') : MarksAt w' sv l := by
  obtain ⟨a, cap, e, hc⟩ := h
  refine ⟨a, cap, e, fun i x hx => ?_⟩
  obtain ⟨b, o, e2, h1, h2⟩ := hc i x hx
  exact ⟨b, o, e2, (hb.cell (block_lt_of_cell h1)).trans h1, (hb.cell (block_lt_of_cell h2)).trans h2⟩
theorem MarksAt.nil (w : World) (cap : Nat) (a : Option Addr) : MarksAt w (.slice a 0 cap) [] := ⟨a, cap, rfl, fun i x h => by simp at h⟩
theorem MarksAt.has {w : World} {sv : Value} {l : List Mk} (h : MarksAt w sv l) (hl : 0 < l.length) : ∃ b o cap, sv = .slice (some ⟨b, o, none⟩) l.length cap ∧ ∀ i m, l[i]? = some m → w.cell? ⟨b, o + i * 2, none⟩ = some (.int .i64 m.1) ∧ w.cell? ⟨b, o + i * 2 + 1, none⟩ = some (.int .i64 m.2) := by
  obtain ⟨a, cap, e, hc⟩ := h
  obtain ⟨b, o, e2, _⟩ := hc 0 l[0] (by simp [hl])
  subst e2
  refine ⟨b, o, cap, e, fun i x hx => ?_⟩
  obtain ⟨b', o', e3, hx2⟩ := hc i x hx
  cases e3
  exact hx2
theorem kindOf_any (n : Int) (w : World) : Calls Tryz.prog 112 #[.int .i64 n] w fun e w' => e = .returned (.tuple #[.int .i64 (kindIds n), .bool (hasBlock n)]) ∧ w = w' := by
  by_cases h3 : n = 3
  · subst h3
    go_enter Tryz.func112, Tryz.ntmps112
    go_wp2_with fail
    go_ret2
    exact ⟨rfl, rfl⟩
  · by_cases h1 : n = 1
    · subst h1
      go_enter Tryz.func112, Tryz.ntmps112
      go_wp2_with fail
      go_ret2
      exact ⟨rfl, rfl⟩
    · by_cases h2 : n = 2
      · subst h2
        go_enter Tryz.func112, Tryz.ntmps112
        go_wp2_with fail
        go_ret2
        exact ⟨rfl, rfl⟩
      · by_cases h4 : n = 4
        · subst h4
          go_enter Tryz.func112, Tryz.ntmps112
          go_wp2_with fail
          go_ret2
          exact ⟨rfl, rfl⟩
        · by_cases h5 : n = 5
          · subst h5
            go_enter Tryz.func112, Tryz.ntmps112
            go_wp2_with fail
            go_ret2
            exact ⟨rfl, rfl⟩
          · have e1 : kindIds n = 0 := by unfold kindIds; rw [if_neg h3, if_neg (by omega)]
            have e2 : hasBlock n = false := by unfold hasBlock; rw [Bool.and_eq_false_iff, decide_eq_false_iff_not, decide_eq_false_iff_not]; omega
            rw [e1, e2]
            clear e1 e2
            go_enter Tryz.func112, Tryz.ntmps112
            go_wp2_with fail
            go_ret2
            exact ⟨rfl, rfl⟩
theorem good_short {l : List Mk} (h : l.length < 1) : goodMarks l = false := by unfold goodMarks; rw [decide_eq_false (by omega)]; rfl
theorem good_long {l : List Mk} (h : 24 < l.length) : goodMarks l = false := by unfold goodMarks; rw [decide_eq_false (p := l.length ≤ 24) (by omega)]; simp
theorem good_bad {l : List Mk} {k : Nat} {m : Mk} (hk : l[k]? = some m) (h : okMark m = false) : goodMarks l = false := by
  cases e : goodMarks l with
  | false => rfl
  | true =>
    have := good_ok e m (List.mem_of_getElem? hk)
    rw [h] at this
    cases this
theorem good_all {l : List Mk} (h1 : 1 ≤ l.length) (h2 : l.length ≤ 24) (h : ∀ k m, l[k]? = some m → k < l.length → okMark m = true) : goodMarks l = true := by
  unfold goodMarks
  rw [decide_eq_true h1, decide_eq_true h2, Bool.true_and, Bool.true_and, List.all_eq_true]
  intro m hm
  obtain ⟨k, hk, rfl⟩ := List.mem_iff_getElem.1 hm
  exact h k _ (by simp [hk]) hk
set_option maxRecDepth 100000 in
theorem areMarks_any (sv : Value) (l : List Mk) (hl : l.length ≤ 1000000) (w : World) (h : MarksAt w sv l) : Calls Tryz.prog 99 #[sv] w fun e w' => e = .returned (.bool (goodMarks l)) ∧ Below w.heap.size w w' := by
  obtain ⟨a, cap, rfl, hc⟩ := id h
  have HC := Lib.hid hc
  clear h hc
  by_cases hs1 : l.length < 1
  · have HG := Lib.hid (good_short hs1)
    go_enter Tryz.func99, Tryz.ntmps99
    go_wp2_with fail
    go_ret
    exact ⟨by first | (rw [HG.out]; done) | (rw [HG.out]; rfl), Below.refl _ _⟩
  by_cases hs2 : 24 < l.length
  · have HG := Lib.hid (good_long hs2)
    go_enter Tryz.func99, Tryz.ntmps99
    go_wp2_with fail
    go_ret
    exact ⟨by first | (rw [HG.out]; done) | (rw [HG.out]; rfl), Below.refl _ _⟩
  go_enter Tryz.func99, Tryz.ntmps99
  go_wp2_with fail
  go_loopg [17] l.length (fun q i wr => ∃ k : Nat, l.length - k ≤ q ∧ k ≤ l.length ∧ i = .int .i64 k ∧ (∀ j m, l[j]? = some m → j < k → okMark m = true) ∧ Below w.heap.size w wr)
  case atStart => exact ⟨0, by omega, by omega, rfl, fun j m _ h => by omega, Below.refl _ _⟩
  case round =>
    obtain ⟨k, hg, hk, rfl, hall, hbel⟩ := hrel
    have HB := Lib.hid hbel
    have HA := Lib.hid hall
    clear hbel hall
    by_cases hlt : k < l.length
    · have hlk : l[k]? = some l[k] := by simp [hlt]
      obtain ⟨b, o, rfl, h1, h2⟩ := HC.out k l[k] hlk
      have c1 := (HB.out.cell (block_lt_of_cell h1)).trans h1
      have c2 := (HB.out.cell (block_lt_of_cell h2)).trans h2
      clear h1 h2
      generalize l[k] = m at *
      obtain ⟨mk, mi⟩ := m
      have HLK := Lib.hid hlk
      clear hlk
      simp only at c1 c2
      have hk0 : (0 : Int) ≤ (k : Int) := by omega
      have hk1 : (k : Int) < (l.length : Int) := by omega
      have HK := Lib.hid fun w => kindOf_any mk w
      obtain ⟨ids, hids⟩ : ∃ n, kindIds mk = n := ⟨_, rfl⟩
      rw [hids] at HK
      have HI := Lib.hid hids
      clear hids
      by_cases hm0 : mi < 0
      · have HG := Lib.hid (good_bad (l := l) HLK.out (show okMark (mk, mi) = false by unfold okMark; rw [decide_eq_false (by simp only; omega)]; rfl))
        go_wp2_with fail
        refine (HK.out _).mono ?_
        rintro e w1 ⟨rfl, rfl⟩
        go_wp2_with fail
        go_ret
        exact ⟨by first | (rw [HG.out]; done) | (rw [HG.out]; rfl), HB.out.alloc HB.out.size _⟩
      · by_cases hm1 : ids ≤ mi
        · have HG := Lib.hid (good_bad (l := l) HLK.out (show okMark (mk, mi) = false by unfold okMark; rw [HI.out, decide_eq_false (p := mi < ids) (by omega)]; simp))
          go_wp2_with fail
          refine (HK.out _).mono ?_
          rintro e w1 ⟨rfl, rfl⟩
          go_wp2_with fail
          go_ret
          exact ⟨by first | (rw [HG.out]; done) | (rw [HG.out]; rfl), HB.out.alloc HB.out.size _⟩
        · have HO := Lib.hid (show okMark (mk, mi) = true by unfold okMark; rw [HI.out, decide_eq_true (p := mi < ids) (by omega), decide_eq_true (by simp only; omega)]; rfl)
          go_wp2_with fail
          refine (HK.out _).mono ?_
          rintro e w1 ⟨rfl, rfl⟩
          go_wp2_with fail
          go_roundg (l.length - (k + 1))
          case measure => omega
          case rel =>
            refine ⟨k + 1, by omega, by omega, by go_num, fun j m hj hjk => ?_, HB.out.alloc HB.out.size _⟩
            by_cases e : j = k
            · subst e
              rw [HLK.out] at hj
              cases hj
              exact HO.out
            · exact HA.out j m hj (by omega)
    · have hkl : k = l.length := by omega
      subst hkl
      have HG := Lib.hid (good_all (l := l) (by omega) (by omega) HA.out)
      clear hlt
      go_wp2_with fail
      go_ret
      exact ⟨by first | (rw [HG.out]; done) | (rw [HG.out]; rfl), HB.out⟩
abbrev Sm.cells (s : Sm) (sv : Value) : List Value := [.int .u32 s.seq, .bool s.more, sv]
/-- A summary in a variable (g), the result's variable (r), both made behind W. -/
structure sES (W w : World) (g r : Nat) (s : Sm) (sv : Value) : Prop where
  sm : Blk w g (s.cells sv)
  res : Blk w r (u8s (zeros 64))
  bel : Below W.heap.size W w
  g0 : W.heap.size ≤ g
  gr : g < r
theorem sES.below {W w w' : World} {g r : Nat} {s : Sm} {sv : Value} (h : sES W w g r s sv) (hb : Below w.heap.size w w') : sES W w' g r s sv :=
  ⟨h.sm.below hb h.sm.lt, h.res.below hb h.res.lt, h.bel.trans (hb.mono h.bel.size), h.g0, h.gr⟩
/-- And the sector (x). -/
structure sET (W w : World) (g r x : Nat) (s : Sm) (sv : Value) (L : List Int) : Prop where
  es : sES W w g r s sv
  sec : Blk w x (u8s L)
  rx : r < x
theorem sET.below {W w w' : World} {g r x : Nat} {s : Sm} {sv : Value} {L : List Int} (h : sET W w g r x s sv L) (hb : Below w.heap.size w w') : sET W w' g r x s sv L :=
  ⟨h.es.below hb, h.sec.below hb h.sec.lt, h.rx⟩
theorem sET.drew {W w : World} {g r x : Nat} {s : Sm} {sv : Value} {L : List Int} (h : sET W w g r x s sv L) : sET W w.drew g r x s sv L := h.below (Below.refl _ _).drew
theorem sET.alloc {W w : World} {g r x : Nat} {s : Sm} {sv : Value} {L : List Int} (h : sET W w g r x s sv L) (o : Obj) : sET W (w.alloc o) g r x s sv L := h.below ((Below.refl _ _).alloc (Nat.le_refl _) _)
theorem sET.put {W w w' : World} {g r x : Nat} {s : Sm} {sv : Value} {L M : List Int} (h : sET W w g r x s sv L) (hs : Blk w' x (u8s M)) (ho : Only (fun k => k = x) w w') : sET W w' g r x s sv M :=
  ⟨⟨h.es.sm.only ho (by have := h.rx; have := h.es.gr; omega), h.es.res.only ho (by have := h.rx; omega), h.es.bel.trans (ho.below h.es.bel.size (fun k hk => by have := h.es.g0; have := h.es.gr; have := h.rx; omega)), h.es.g0, h.es.gr⟩, hs, h.rx⟩
theorem sET.set {W w : World} {g r x : Nat} {s : Sm} {sv : Value} {L : List Int} (h : sET W w g r x s sv L) (i : Nat) (v : Int) : sET W (w.setCell ⟨x, i, none⟩ (.int .u8 v)) g r x s sv (L.set i v) :=
  h.put (by have := h.sec.set i (.int .u8 v); rwa [← List.map_set] at this) ((Only.refl (fun k => k = x) w).setCell (p := ⟨x, i, none⟩) (.inl rfl) _)
theorem u8s_at {L : List Int} {i : Nat} (h : i < L.length) : (u8s L)[i]? = some (.int .u8 (L.getD i 0)) := by
  rw [List.getElem?_map, List.getD_eq_getElem?_getD, List.getElem?_eq_getElem h]
  rfl
def encL (s : Sm) (k : Nat) : List Int := 83 :: bit s.more :: ((le 4 s.seq).take k ++ zeros (62 - k))
def encM (s : Sm) (k : Nat) : List Int := s.pre ++ (flat (s.marks.take k) ++ zeros (57 - 2 * k))
theorem encL_length (s : Sm) (k : Nat) (h : k ≤ 4) : (encL s k).length = 64 := by
  simp only [encL, List.length_cons, List.length_append, List.length_take, le_length, zeros_length]
  omega
theorem encL_0 (s : Sm) : encL s 0 = 83 :: bit s.more :: zeros 62 := rfl
theorem encL_1 (s : Sm) : (encL s 0).set 2 (s.seq % 256) = encL s 1 := rfl
theorem encL_2 (s : Sm) : (encL s 1).set 3 (s.seq / 256 % 256) = encL s 2 := rfl
theorem encL_3 (s : Sm) : (encL s 2).set 4 (s.seq / 65536 % 256) = encL s 3 := by
  rw [show s.seq / 65536 = s.seq / 256 / 256 by omega]; rfl
theorem encL_4 (s : Sm) : (encL s 3).set 5 (s.seq / 16777216 % 256) = encL s 4 := by
  rw [show s.seq / 16777216 = s.seq / 256 / 256 / 256 by omega]; rfl
theorem encL_5 (s : Sm) : (encL s 4).set 6 (s.marks.length : Int) = encM s 0 := rfl
theorem encM_length (s : Sm) (k : Nat) (hk : k ≤ s.marks.length) (h : k ≤ 24) : (encM s k).length = 64 := by
  simp only [encM, List.length_append, pre_length, sflat_length, List.length_take, zeros_length]
  omega
theorem encM_all (s : Sm) : encM s s.marks.length = s.enc := by simp [encM, Sm.enc]
theorem pre_set (s : Sm) (X : List Int) (j : Nat) (v : Int) : (s.pre ++ X).set (7 + j) v = s.pre ++ X.set j v := by
  rw [List.set_append_right _ _ (by rw [pre_length]; omega), pre_length, show 7 + j - 7 = j by omega]
theorem encM_step {s : Sm} {k : Nat} {m : Mk} (hm : s.marks[k]? = some m) (h : k < 24) : ((encM s k).set (7 + k * 2) m.1).set (7 + k * 2 + 1) m.2 = encM s (k + 1) := by
  have hk : k < s.marks.length := (List.getElem?_eq_some_iff.1 hm).1
  have hz : zeros (57 - 2 * k) = 0 :: 0 :: zeros (57 - 2 * (k + 1)) := by
    rw [show 57 - 2 * k = (57 - 2 * (k + 1)) + 1 + 1 by omega]
    rfl
  have hf : (flat (s.marks.take k)).length = 2 * k := by rw [sflat_length, List.length_take]; omega
  unfold encM
  rw [hz, flat_snoc hm, pre_set, show 7 + k * 2 + 1 = 7 + (k * 2 + 1) by omega, pre_set]
  congr 1
  rw [List.set_append_right _ _ (by omega), List.set_append_right _ _ (by omega), hf, show k * 2 - 2 * k = 0 by omega, show k * 2 + 1 - 2 * k = 1 by omega]
  simp
theorem built115f : Tryz.prog.built 115 [(0, .int .u8 83)] = some (u8s (83 :: zeros 63)).toArray := by kernel_rfl
theorem build115f (w : World) : (Instr.build 115 #[(0, .int .u8 83)]).run Tryz.prog w = .ok (.agg (u8s (83 :: zeros 63)).toArray) w := run_build w 115 _ _ built115f
set_option maxRecDepth 100000 in
theorem sencode_no (s : Sm) (sv : Value) (hl : s.marks.length ≤ 1000000) (w : World) (h : MarksAt w sv s.marks) (hg : s.good = false) : Calls Tryz.prog 88 #[.agg #[.int .u32 s.seq, .bool s.more, sv]] w fun e w' => e = .returned (.tuple #[.agg (u8s (zeros 64)).toArray, .int .i64 11]) ∧ Below w.heap.size w w' := by
  have HM := Lib.hid h
  have HG := Lib.hid hg
  clear h hg
  go_enter Tryz.func88, Tryz.ntmps88
  repeat (first | (with_reducible refine stopR (id := 0) ?_) | go_values | go_skip | go_guarded | go_step | go_upon | go_back)
  refine Stop.mk (wp_region_lit ?_)
  refine box_g rfl rfl ?_
  intro wA hA hB hl1
  try simp only [Act.put, List.setIfInBounds_toArray, List.set_cons_succ, List.set_cons_zero]
  refine alloc_g zero115 rfl ?_
  intro wB hR hB2 hl2
  try simp only [Act.put, List.setIfInBounds_toArray, List.set_cons_succ, List.set_cons_zero]
  have H0 : Hid (sES w wB w.heap.size wA.heap.size s sv) := Lib.hid ⟨hA.below hB2 hl1, hR, hB.trans (hB2.mono hB.size), Nat.le_refl _, hl1⟩
  have HM0 := Lib.hid (HM.out.below H0.out.bel)
  have HG1 := Lib.hid fun w' (h' : MarksAt w' sv s.marks) => areMarks_any sv s.marks hl w' h'
  clear hA hB hl1 hR hB2 hl2
  generalize hgg : w.heap.size = g at *
  generalize hrr : wA.heap.size = r at *
  have HGG := Lib.hid hgg
  clear hgg hrr wA
  refine takeL (.int .i64 0) rfl (by go_simp) ?_
  try simp only [Act.put, List.setIfInBounds_toArray, List.set_cons_succ, List.set_cons_zero]
  refine wpList_nil ?_
  have c2 := H0.out.sm.cell (i := 2) rfl
  go_wp2_with fail
  refine (HG1.out _ HM0.out).mono ?_
  rintro e w1 ⟨rfl, hb⟩
  have H1 := Lib.hid (H0.out.below hb)
  have HM1 := Lib.hid (HM0.out.below hb)
  clear hb H0 HM0 c2 HG1
  rw [show goodMarks s.marks = false from HG.out]
  go_upto_region 2 with fail
  refine wp_region_lit ?_
  refine build_g (build115 _) rfl ?_
  try simp only [Act.put, List.setIfInBounds_toArray, List.set_cons_succ, List.set_cons_zero]
  refine store_all H1.out.res (by simp) (by simpa [zeros] using info115) (u8s_one _) rfl rfl rfl ?_
  intro wZ hZ hOZ hlZ
  try simp only [Act.put, List.setIfInBounds_toArray, List.set_cons_succ, List.set_cons_zero]
  refine takeL (.int .i64 11) rfl (by go_simp) ?_
  try simp only [Act.put, List.setIfInBounds_toArray, List.set_cons_succ, List.set_cons_zero]
  have HF := Lib.hid (H1.out.bel.trans (hOZ.below H1.out.bel.size (fun k hk => by have := H1.out.g0; have := H1.out.gr; omega)))
  refine wpList_nil ?_
  go_wp2_with fail
  refine bodyPost_ret (v := .tuple #[.agg (u8s (zeros 64)).toArray, .int .i64 11]) (results_cell_tmp rfl _ _ r 0 _ _ _ rfl rfl Tryz.underlying115 rfl (by simpa [zeros] using info115) (hZ.all rfl)) rfl ⟨rfl, by first | exact HF.out | (rw [HGG.out]; exact HF.out)⟩
set_option maxRecDepth 100000 in
theorem encode_yes_true (s : Sm) (sv : Value) (hmo : s.more = true) (hq : 0 ≤ s.seq ∧ s.seq < 4294967296) (w : World) (h : MarksAt w sv s.marks) (hg : s.good = true) : Calls Tryz.prog 88 #[.agg #[.int .u32 s.seq, .bool s.more, sv]] w fun e w' => e = .returned (.tuple #[.agg (u8s s.enc).toArray, .int .i64 0]) ∧ Below w.heap.size w w' := by
  have HM := Lib.hid h
  have HG := Lib.hid hg
  obtain ⟨hn1, hn2⟩ := good_len hg
  have hl : s.marks.length ≤ 1000000 := by omega
  obtain ⟨hq1, hq2⟩ := hq
  obtain ⟨a, o, cap, hsv, _⟩ := h.has (by omega)
  have HMO := Lib.hid hmo
  have HSV := Lib.hid hsv
  clear hg h hmo hsv
  go_enter Tryz.func88, Tryz.ntmps88
  repeat (first | (with_reducible refine stopR (id := 0) ?_) | go_values | go_skip | go_guarded | go_step | go_upon | go_back)
  refine Stop.mk (wp_region_lit ?_)
  refine box_g rfl rfl ?_
  intro wA hA hB hl1
  try simp only [Act.put, List.setIfInBounds_toArray, List.set_cons_succ, List.set_cons_zero]
  refine alloc_g zero115 rfl ?_
  intro wB hR hB2 hl2
  try simp only [Act.put, List.setIfInBounds_toArray, List.set_cons_succ, List.set_cons_zero]
  have H0 : Hid (sES w wB w.heap.size wA.heap.size s sv) := Lib.hid ⟨hA.below hB2 hl1, hR, hB.trans (hB2.mono hB.size), Nat.le_refl _, hl1⟩
  have HM0 := Lib.hid (HM.out.below H0.out.bel)
  have HG1 := Lib.hid fun w' (h' : MarksAt w' sv s.marks) => areMarks_any sv s.marks hl w' h'
  clear hA hB hl1 hR hB2 hl2
  generalize hgg : w.heap.size = g at *
  generalize hrr : wA.heap.size = r at *
  have HGG := Lib.hid hgg
  clear hgg hrr wA
  refine takeL (.int .i64 0) rfl (by go_simp) ?_
  try simp only [Act.put, List.setIfInBounds_toArray, List.set_cons_succ, List.set_cons_zero]
  refine wpList_nil ?_
  have c2 := H0.out.sm.cell (i := 2) rfl
  go_wp2_with fail
  refine (HG1.out _ HM0.out).mono ?_
  rintro e w1 ⟨rfl, hb⟩
  have H1 := Lib.hid (H0.out.below hb)
  have HM1 := Lib.hid (HM0.out.below hb)
  clear hb H0 HM0 c2 HG1
  rw [show goodMarks s.marks = true from HG.out]
  go_upto_region 3 with fail
  refine wp_region_lit ?_
  refine takeL (.agg (u8s (83 :: zeros 63)).toArray) rfl (exec_build _ _ _ _ 115 #[(0, .const (.int .u8 83))] rfl #[(0, .int .u8 83)] (by simp only [List.map_toArray, List.map_cons, List.map_nil]; rfl) _ (build115f _)) ?_
  try simp only [Act.put, List.setIfInBounds_toArray, List.set_cons_succ, List.set_cons_zero]
  refine alloc_g zero115 rfl ?_
  intro wC hC hBC hlC
  try simp only [Act.put, List.setIfInBounds_toArray, List.set_cons_succ, List.set_cons_zero]
  refine store_all hC (by simp [zeros]) (by simpa [zeros] using info115) (u8s_one _) rfl rfl rfl ?_
  intro wD hD hOD hlD
  try simp only [Act.put, List.setIfInBounds_toArray, List.set_cons_succ, List.set_cons_zero]
  have hBD := hBC.trans (hOD.below hBC.size (fun k hk => Nat.le_of_eq hk.symm))
  have H2 : Hid (sET w wD g r w1.heap.size s sv (83 :: zeros 63)) := Lib.hid (sET.mk (H1.out.below hBD) hD H1.out.res.lt)
  clear hC hBC hlC hD hOD hlD hBD HM1
  generalize hss : w1.heap.size = x at *
  clear hss
  refine wpList_nil ?_
  have c1 := H2.out.es.sm.cell (i := 1) rfl
  rw [HMO.out] at c1
  have cb := H2.out.sec.cell (i := 1) rfl
  have hfro := H2.out.sec.frozen 1
  go_wp2_with fail
  go_loopg [18] 4 (fun q i wr => ∃ k : Nat, 4 - k ≤ q ∧ k ≤ 4 ∧ i = .int .i64 k ∧ sET w wr g r x s sv (encL s k))
  case atStart =>
    refine ⟨0, by omega, by omega, rfl, ?_⟩
    have hs := H2.out.set 1 1
    rw [show (83 :: zeros 63 : List Int).set 1 1 = encL s 0 by rw [encL_0, HMO.out]; rfl] at hs
    exact hs
  case round =>
    obtain ⟨k, hgk, hk, rfl, het⟩ := hrel
    have HL := Lib.hid het
    clear het
    rcases (show k = 0 ∨ k = 1 ∨ k = 2 ∨ k = 3 ∨ k = 4 by omega) with rfl | rfl | rfl | rfl | rfl
    · have c0 := HL.out.es.sm.cell (i := 0) rfl
      have cx := HL.out.sec.cell (i := 2) (u8s_at (by rw [encL_length _ _ (by omega)]; omega))
      have hfro := HL.out.sec.frozen 2
      go_wp2_with fail
      go_roundg (4 - 1)
      case measure => omega
      case rel =>
        refine ⟨1, by omega, by omega, by go_num, ?_⟩
        have hs := HL.out.set 2 (s.seq % 256)
        rw [encL_1] at hs
        first | exact hs | simpa using hs | (rw [show s.seq / 16777216 % 256 = s.seq / 16777216 by omega] at hs; exact hs)
    · have c0 := HL.out.es.sm.cell (i := 0) rfl
      have cx := HL.out.sec.cell (i := 3) (u8s_at (by rw [encL_length _ _ (by omega)]; omega))
      have hfro := HL.out.sec.frozen 3
      go_wp2_with fail
      go_roundg (4 - 2)
      case measure => omega
      case rel =>
        refine ⟨2, by omega, by omega, by go_num, ?_⟩
        have hs := HL.out.set 3 (s.seq / 256 % 256)
        rw [encL_2] at hs
        first | exact hs | simpa using hs | (rw [show s.seq / 16777216 % 256 = s.seq / 16777216 by omega] at hs; exact hs)
    · have c0 := HL.out.es.sm.cell (i := 0) rfl
      have cx := HL.out.sec.cell (i := 4) (u8s_at (by rw [encL_length _ _ (by omega)]; omega))
      have hfro := HL.out.sec.frozen 4
      go_wp2_with fail
      go_roundg (4 - 3)
      case measure => omega
      case rel =>
        refine ⟨3, by omega, by omega, by go_num, ?_⟩
        have hs := HL.out.set 4 (s.seq / 65536 % 256)
        rw [encL_3] at hs
        first | exact hs | simpa using hs | (rw [show s.seq / 16777216 % 256 = s.seq / 16777216 by omega] at hs; exact hs)
    · have c0 := HL.out.es.sm.cell (i := 0) rfl
      have cx := HL.out.sec.cell (i := 5) (u8s_at (by rw [encL_length _ _ (by omega)]; omega))
      have hfro := HL.out.sec.frozen 5
      go_wp2_with fail
      go_roundg (4 - 4)
      case measure => omega
      case rel =>
        refine ⟨4, by omega, by omega, by go_num, ?_⟩
        have hs := HL.out.set 5 (s.seq / 16777216 % 256)
        rw [encL_4] at hs
        first | exact hs | simpa using hs | (rw [show s.seq / 16777216 % 256 = s.seq / 16777216 by omega] at hs; exact hs)
    · have HM4 := Lib.hid (HM.out.below HL.out.es.bel)
      rw [HSV.out] at HM4
      have c2 := HL.out.es.sm.cell (i := 2) rfl
      rw [HSV.out] at c2
      have cx := HL.out.sec.cell (i := 6) (u8s_at (by rw [encL_length _ _ (by omega)]; omega))
      have hfro := HL.out.sec.frozen 6
      have hn1' : (1 : Int) ≤ (s.marks.length : Int) := by omega
      have hn2' : (s.marks.length : Int) ≤ 24 := by omega
      go_wp2_with fail
      go_loopg [39] s.marks.length (fun q i wq => ∃ k : Nat, s.marks.length - k ≤ q ∧ k ≤ s.marks.length ∧ i = .int .i64 k ∧ sET w wq g r x s sv (encM s k))
      case atStart =>
        refine ⟨0, by omega, by omega, rfl, ?_⟩
        have hs := HL.out.set 6 s.marks.length
        rw [encL_5] at hs
        exact hs
      case round =>
        obtain ⟨k, hgk, hk, rfl, het⟩ := hrel
        have HE := Lib.hid het
        clear het HL HM4 c2 cx hfro
        by_cases hlt : k < s.marks.length
        · have hlk : s.marks[k]? = some s.marks[k] := by simp [hlt]
          have HM5 := HM.out.below HE.out.es.bel
          rw [HSV.out] at HM5
          obtain ⟨b', o', cap', he, hcells⟩ := HM5.has (by omega)
          cases he
          obtain ⟨c1, c2⟩ := hcells k _ hlk
          have hmb := good_byte HG.out _ (List.getElem_mem hlt)
          have HST := Lib.hid (encM_step hlk (by omega))
          clear hcells HM5 hlk
          generalize s.marks[k] = m at *
          obtain ⟨mk, mi⟩ := m
          obtain ⟨⟨hm1, hm2⟩, ⟨hm3, hm4⟩⟩ := hmb
          simp only at c1 c2 hm1 hm2 hm3 hm4
          have hk0 : (0 : Int) ≤ (k : Int) := by omega
          have hk1 : (k : Int) < (s.marks.length : Int) := by omega
          have hk2 : (k : Int) < 24 := by omega
          go_upto_region 16 with fail
          have HE2 := Lib.hid (HE.out.alloc (Obj.cells #[Value.int IntKind.i64 mk, Value.int IntKind.i64 mi] 68))
          have hnew := Blk.new wr #[Value.int IntKind.i64 mk, Value.int IntKind.i64 mi] 68
          have d1 := hnew.cell (i := 0) rfl
          have d2 := hnew.cell (i := 1) rfl
          have hnx : x < wr.heap.size := HE.out.sec.lt
          clear hnew c1 c2 HE
          generalize wr.heap.size = nn at *
          generalize wr.alloc (Obj.cells #[Value.int IntKind.i64 mk, Value.int IntKind.i64 mi] 68) = wn at *
          have e1 := HE2.out.sec.cell (i := 7 + k * 2) (u8s_at (by rw [encM_length _ _ (by omega) (by omega)]; omega))
          have e2 := HE2.out.sec.cell (i := 7 + k * 2 + 1) (u8s_at (by rw [encM_length _ _ (by omega) (by omega)]; omega))
          have f1 := HE2.out.sec.frozen (7 + k * 2)
          have f2 := HE2.out.sec.frozen (7 + k * 2 + 1)
          go_region
          go_wp2_with fail
          go_roundg (s.marks.length - (k + 1))
          case measure => omega
          case rel =>
            refine ⟨k + 1, by omega, by omega, by go_num, ?_⟩
            have hs := ((HE2.out.set (7 + k * 2) mk).set (7 + k * 2 + 1) mi).drew
            rw [HST.out] at hs
            exact hs
        · have hkl : k = s.marks.length := by omega
          subst hkl
          have HE2 := HE.out
          rw [encM_all] at HE2
          have HE2 := Lib.hid HE2
          have HLN := Lib.hid (senc_length HG.out)
          clear hlt HE
          go_upto_region 18 with fail
          refine wp_region_lit ?_
          refine load115 (cs := (u8s s.enc).toArray) (Blk.all HE2.out.sec rfl) (by rw [u8s_size, HLN.out]) rfl rfl ?_
          try simp only [Act.put, List.setIfInBounds_toArray, List.set_cons_succ, List.set_cons_zero]
          refine store_all (cs := (u8s s.enc).toArray) HE2.out.es.res (by rw [u8s_size, HLN.out]; simp [zeros]) (by rw [u8s_size, HLN.out]; exact info115) (u8s_one _) rfl rfl rfl ?_
          intro wZ hZ hOZ hlZ
          try simp only [Act.put, List.setIfInBounds_toArray, List.set_cons_succ, List.set_cons_zero]
          have HF := Lib.hid (HE2.out.es.bel.trans (hOZ.below HE2.out.es.bel.size (fun k hk => by have := HE2.out.es.g0; have := HE2.out.es.gr; omega)))
          refine takeL (.int .i64 0) rfl (by go_simp) ?_
          try simp only [Act.put, List.setIfInBounds_toArray, List.set_cons_succ, List.set_cons_zero]
          refine wpList_nil ?_
          go_wp2_with fail
          refine bodyPost_ret (v := .tuple #[.agg (u8s s.enc).toArray, .int .i64 0]) (results_cell_tmp rfl _ _ r 0 _ _ _ rfl rfl Tryz.underlying115 rfl (by rw [u8s_size, HLN.out]; exact info115) (hZ.all rfl)) rfl ⟨rfl, by first | exact HF.out | (rw [HGG.out]; exact HF.out)⟩
set_option maxRecDepth 100000 in
theorem encode_yes_false (s : Sm) (sv : Value) (hmo : s.more = false) (hq : 0 ≤ s.seq ∧ s.seq < 4294967296) (w : World) (h : MarksAt w sv s.marks) (hg : s.good = true) : Calls Tryz.prog 88 #[.agg #[.int .u32 s.seq, .bool s.more, sv]] w fun e w' => e = .returned (.tuple #[.agg (u8s s.enc).toArray, .int .i64 0]) ∧ Below w.heap.size w w' := by
  have HM := Lib.hid h
  have HG := Lib.hid hg
  obtain ⟨hn1, hn2⟩ := good_len hg
  have hl : s.marks.length ≤ 1000000 := by omega
  obtain ⟨hq1, hq2⟩ := hq
  obtain ⟨a, o, cap, hsv, _⟩ := h.has (by omega)
  have HMO := Lib.hid hmo
  have HSV := Lib.hid hsv
  clear hg h hmo hsv
  go_enter Tryz.func88, Tryz.ntmps88
  repeat (first | (with_reducible refine stopR (id := 0) ?_) | go_values | go_skip | go_guarded | go_step | go_upon | go_back)
  refine Stop.mk (wp_region_lit ?_)
  refine box_g rfl rfl ?_
  intro wA hA hB hl1
  try simp only [Act.put, List.setIfInBounds_toArray, List.set_cons_succ, List.set_cons_zero]
  refine alloc_g zero115 rfl ?_
  intro wB hR hB2 hl2
  try simp only [Act.put, List.setIfInBounds_toArray, List.set_cons_succ, List.set_cons_zero]
  have H0 : Hid (sES w wB w.heap.size wA.heap.size s sv) := Lib.hid ⟨hA.below hB2 hl1, hR, hB.trans (hB2.mono hB.size), Nat.le_refl _, hl1⟩
  have HM0 := Lib.hid (HM.out.below H0.out.bel)
  have HG1 := Lib.hid fun w' (h' : MarksAt w' sv s.marks) => areMarks_any sv s.marks hl w' h'
  clear hA hB hl1 hR hB2 hl2
  generalize hgg : w.heap.size = g at *
  generalize hrr : wA.heap.size = r at *
  have HGG := Lib.hid hgg
  clear hgg hrr wA
  refine takeL (.int .i64 0) rfl (by go_simp) ?_
  try simp only [Act.put, List.setIfInBounds_toArray, List.set_cons_succ, List.set_cons_zero]
  refine wpList_nil ?_
  have c2 := H0.out.sm.cell (i := 2) rfl
  go_wp2_with fail
  refine (HG1.out _ HM0.out).mono ?_
  rintro e w1 ⟨rfl, hb⟩
  have H1 := Lib.hid (H0.out.below hb)
  have HM1 := Lib.hid (HM0.out.below hb)
  clear hb H0 HM0 c2 HG1
  rw [show goodMarks s.marks = true from HG.out]
  go_upto_region 3 with fail
  refine wp_region_lit ?_
  refine takeL (.agg (u8s (83 :: zeros 63)).toArray) rfl (exec_build _ _ _ _ 115 #[(0, .const (.int .u8 83))] rfl #[(0, .int .u8 83)] (by simp only [List.map_toArray, List.map_cons, List.map_nil]; rfl) _ (build115f _)) ?_
  try simp only [Act.put, List.setIfInBounds_toArray, List.set_cons_succ, List.set_cons_zero]
  refine alloc_g zero115 rfl ?_
  intro wC hC hBC hlC
  try simp only [Act.put, List.setIfInBounds_toArray, List.set_cons_succ, List.set_cons_zero]
  refine store_all hC (by simp [zeros]) (by simpa [zeros] using info115) (u8s_one _) rfl rfl rfl ?_
  intro wD hD hOD hlD
  try simp only [Act.put, List.setIfInBounds_toArray, List.set_cons_succ, List.set_cons_zero]
  have hBD := hBC.trans (hOD.below hBC.size (fun k hk => Nat.le_of_eq hk.symm))
  have H2 : Hid (sET w wD g r w1.heap.size s sv (83 :: zeros 63)) := Lib.hid (sET.mk (H1.out.below hBD) hD H1.out.res.lt)
  clear hC hBC hlC hD hOD hlD hBD HM1
  generalize hss : w1.heap.size = x at *
  clear hss
  refine wpList_nil ?_
  have c1 := H2.out.es.sm.cell (i := 1) rfl
  rw [HMO.out] at c1
  have cb := H2.out.sec.cell (i := 1) rfl
  have hfro := H2.out.sec.frozen 1
  go_wp2_with fail
  go_loopg [18] 4 (fun q i wr => ∃ k : Nat, 4 - k ≤ q ∧ k ≤ 4 ∧ i = .int .i64 k ∧ sET w wr g r x s sv (encL s k))
  case atStart =>
    refine ⟨0, by omega, by omega, rfl, ?_⟩
    have hs := H2.out
    rw [show (83 :: zeros 63 : List Int) = encL s 0 by rw [encL_0, HMO.out]; rfl] at hs
    exact hs
  case round =>
    obtain ⟨k, hgk, hk, rfl, het⟩ := hrel
    have HL := Lib.hid het
    clear het
    rcases (show k = 0 ∨ k = 1 ∨ k = 2 ∨ k = 3 ∨ k = 4 by omega) with rfl | rfl | rfl | rfl | rfl
    · have c0 := HL.out.es.sm.cell (i := 0) rfl
      have cx := HL.out.sec.cell (i := 2) (u8s_at (by rw [encL_length _ _ (by omega)]; omega))
      have hfro := HL.out.sec.frozen 2
      go_wp2_with fail
      go_roundg (4 - 1)
      case measure => omega
      case rel =>
        refine ⟨1, by omega, by omega, by go_num, ?_⟩
        have hs := HL.out.set 2 (s.seq % 256)
        rw [encL_1] at hs
        first | exact hs | simpa using hs | (rw [show s.seq / 16777216 % 256 = s.seq / 16777216 by omega] at hs; exact hs)
    · have c0 := HL.out.es.sm.cell (i := 0) rfl
      have cx := HL.out.sec.cell (i := 3) (u8s_at (by rw [encL_length _ _ (by omega)]; omega))
      have hfro := HL.out.sec.frozen 3
      go_wp2_with fail
      go_roundg (4 - 2)
      case measure => omega
      case rel =>
        refine ⟨2, by omega, by omega, by go_num, ?_⟩
        have hs := HL.out.set 3 (s.seq / 256 % 256)
        rw [encL_2] at hs
        first | exact hs | simpa using hs | (rw [show s.seq / 16777216 % 256 = s.seq / 16777216 by omega] at hs; exact hs)
    · have c0 := HL.out.es.sm.cell (i := 0) rfl
      have cx := HL.out.sec.cell (i := 4) (u8s_at (by rw [encL_length _ _ (by omega)]; omega))
      have hfro := HL.out.sec.frozen 4
      go_wp2_with fail
      go_roundg (4 - 3)
      case measure => omega
      case rel =>
        refine ⟨3, by omega, by omega, by go_num, ?_⟩
        have hs := HL.out.set 4 (s.seq / 65536 % 256)
        rw [encL_3] at hs
        first | exact hs | simpa using hs | (rw [show s.seq / 16777216 % 256 = s.seq / 16777216 by omega] at hs; exact hs)
    · have c0 := HL.out.es.sm.cell (i := 0) rfl
      have cx := HL.out.sec.cell (i := 5) (u8s_at (by rw [encL_length _ _ (by omega)]; omega))
      have hfro := HL.out.sec.frozen 5
      go_wp2_with fail
      go_roundg (4 - 4)
      case measure => omega
      case rel =>
        refine ⟨4, by omega, by omega, by go_num, ?_⟩
        have hs := HL.out.set 5 (s.seq / 16777216 % 256)
        rw [encL_4] at hs
        first | exact hs | simpa using hs | (rw [show s.seq / 16777216 % 256 = s.seq / 16777216 by omega] at hs; exact hs)
    · have HM4 := Lib.hid (HM.out.below HL.out.es.bel)
      rw [HSV.out] at HM4
      have c2 := HL.out.es.sm.cell (i := 2) rfl
      rw [HSV.out] at c2
      have cx := HL.out.sec.cell (i := 6) (u8s_at (by rw [encL_length _ _ (by omega)]; omega))
      have hfro := HL.out.sec.frozen 6
      have hn1' : (1 : Int) ≤ (s.marks.length : Int) := by omega
      have hn2' : (s.marks.length : Int) ≤ 24 := by omega
      go_wp2_with fail
      go_loopg [39] s.marks.length (fun q i wq => ∃ k : Nat, s.marks.length - k ≤ q ∧ k ≤ s.marks.length ∧ i = .int .i64 k ∧ sET w wq g r x s sv (encM s k))
      case atStart =>
        refine ⟨0, by omega, by omega, rfl, ?_⟩
        have hs := HL.out.set 6 s.marks.length
        rw [encL_5] at hs
        exact hs
      case round =>
        obtain ⟨k, hgk, hk, rfl, het⟩ := hrel
        have HE := Lib.hid het
        clear het HL HM4 c2 cx hfro
        by_cases hlt : k < s.marks.length
        · have hlk : s.marks[k]? = some s.marks[k] := by simp [hlt]
          have HM5 := HM.out.below HE.out.es.bel
          rw [HSV.out] at HM5
          obtain ⟨b', o', cap', he, hcells⟩ := HM5.has (by omega)
          cases he
          obtain ⟨c1, c2⟩ := hcells k _ hlk
          have hmb := good_byte HG.out _ (List.getElem_mem hlt)
          have HST := Lib.hid (encM_step hlk (by omega))
          clear hcells HM5 hlk
          generalize s.marks[k] = m at *
          obtain ⟨mk, mi⟩ := m
          obtain ⟨⟨hm1, hm2⟩, ⟨hm3, hm4⟩⟩ := hmb
          simp only at c1 c2 hm1 hm2 hm3 hm4
          have hk0 : (0 : Int) ≤ (k : Int) := by omega
          have hk1 : (k : Int) < (s.marks.length : Int) := by omega
          have hk2 : (k : Int) < 24 := by omega
          go_upto_region 16 with fail
          have HE2 := Lib.hid (HE.out.alloc (Obj.cells #[Value.int IntKind.i64 mk, Value.int IntKind.i64 mi] 68))
          have hnew := Blk.new wr #[Value.int IntKind.i64 mk, Value.int IntKind.i64 mi] 68
          have d1 := hnew.cell (i := 0) rfl
          have d2 := hnew.cell (i := 1) rfl
          have hnx : x < wr.heap.size := HE.out.sec.lt
          clear hnew c1 c2 HE
          generalize wr.heap.size = nn at *
          generalize wr.alloc (Obj.cells #[Value.int IntKind.i64 mk, Value.int IntKind.i64 mi] 68) = wn at *
          have e1 := HE2.out.sec.cell (i := 7 + k * 2) (u8s_at (by rw [encM_length _ _ (by omega) (by omega)]; omega))
          have e2 := HE2.out.sec.cell (i := 7 + k * 2 + 1) (u8s_at (by rw [encM_length _ _ (by omega) (by omega)]; omega))
          have f1 := HE2.out.sec.frozen (7 + k * 2)
          have f2 := HE2.out.sec.frozen (7 + k * 2 + 1)
          go_region
          go_wp2_with fail
          go_roundg (s.marks.length - (k + 1))
          case measure => omega
          case rel =>
            refine ⟨k + 1, by omega, by omega, by go_num, ?_⟩
            have hs := ((HE2.out.set (7 + k * 2) mk).set (7 + k * 2 + 1) mi).drew
            rw [HST.out] at hs
            exact hs
        · have hkl : k = s.marks.length := by omega
          subst hkl
          have HE2 := HE.out
          rw [encM_all] at HE2
          have HE2 := Lib.hid HE2
          have HLN := Lib.hid (senc_length HG.out)
          clear hlt HE
          go_upto_region 18 with fail
          refine wp_region_lit ?_
          refine load115 (cs := (u8s s.enc).toArray) (Blk.all HE2.out.sec rfl) (by rw [u8s_size, HLN.out]) rfl rfl ?_
          try simp only [Act.put, List.setIfInBounds_toArray, List.set_cons_succ, List.set_cons_zero]
          refine store_all (cs := (u8s s.enc).toArray) HE2.out.es.res (by rw [u8s_size, HLN.out]; simp [zeros]) (by rw [u8s_size, HLN.out]; exact info115) (u8s_one _) rfl rfl rfl ?_
          intro wZ hZ hOZ hlZ
          try simp only [Act.put, List.setIfInBounds_toArray, List.set_cons_succ, List.set_cons_zero]
          have HF := Lib.hid (HE2.out.es.bel.trans (hOZ.below HE2.out.es.bel.size (fun k hk => by have := HE2.out.es.g0; have := HE2.out.es.gr; omega)))
          refine takeL (.int .i64 0) rfl (by go_simp) ?_
          try simp only [Act.put, List.setIfInBounds_toArray, List.set_cons_succ, List.set_cons_zero]
          refine wpList_nil ?_
          go_wp2_with fail
          refine bodyPost_ret (v := .tuple #[.agg (u8s s.enc).toArray, .int .i64 0]) (results_cell_tmp rfl _ _ r 0 _ _ _ rfl rfl Tryz.underlying115 rfl (by rw [u8s_size, HLN.out]; exact info115) (hZ.all rfl)) rfl ⟨rfl, by first | exact HF.out | (rw [HGG.out]; exact HF.out)⟩
set_option linter.unusedVariables false in
theorem sencode_any (s : Sm) (sv : Value) (hl : s.marks.length ≤ 1000000) (hw : s.Wf) (w : World) (h : MarksAt w sv s.marks) : Calls Tryz.prog 88 #[.agg #[.int .u32 s.seq, .bool s.more, sv]] w fun e w' => e = .returned (.tuple #[.agg (u8s s.sec).toArray, .int .i64 s.err]) ∧ Below w.heap.size w w' := by
  unfold Sm.sec Sm.err
  cases hg : s.good with
  | false => exact sencode_no s sv hl w h hg
  | true =>
    cases hm : s.more with
    | false => have := encode_yes_false s sv hm hw.seq w h hg; rw [hm] at this; exact this
    | true => have := encode_yes_true s sv hm hw.seq w h hg; rw [hm] at this; exact this
theorem info68 : (Tryz.prog.info? 68).map (fun i => (i.zero, i.size, i.bytes)) = some (some (.agg #[.int .i64 0, .int .i64 0]), 2, 16) := by kernel_rfl
theorem made_marks (n : Nat) : (madeCells (#[.int .i64 0, .int .i64 0] : Array Value) (n * 2)).toList = i64s (zeros (n * 2)) := by
  unfold madeCells
  apply List.ext_getElem?
  intro i
  by_cases h : i < n * 2
  · have h2 : i % 2 = 0 ∨ i % 2 = 1 := by omega
    rcases h2 with h2 | h2 <;> simp [zeros, h, h2]
  · simp [zeros, h]
theorem MarksAt.of_row {w : World} {m n cap : Nat} {l : List Mk} (h : Blk w m (i64s (flat l))) (hn : l.length = n) : MarksAt w (.slice (some ⟨m, 0, none⟩) n cap) l := by
  subst hn
  refine ⟨_, cap, rfl, fun i y hy => ⟨m, 0, rfl, ?_, ?_⟩⟩
  · rw [Nat.zero_add]
    exact h.cell (by rw [List.getElem?_map, Nat.mul_comm, flat_fst, hy]; rfl)
  · rw [Nat.zero_add]
    exact h.cell (by rw [List.getElem?_map, Nat.mul_comm, flat_snd, hy]; rfl)
theorem Blk.inv {w : World} {b : Nat} {l : List Value} (h : Blk w b l) {i : Nat} {v : Value} (hi : w.cell? ⟨b, i, none⟩ = some v) : l[i]? = some v := by
  by_cases hl : i < l.length
  · have := h.cell (List.getElem?_eq_getElem hl)
    rw [this] at hi
    rw [List.getElem?_eq_getElem hl, ← hi]
  · obtain ⟨t, ht⟩ := h
    exfalso
    simp [World.cell?, ht, hl] at hi
theorem cell_same {w w' : World} {b i : Nat} (h : w'.heap[b]? = w.heap[b]?) : w'.cell? ⟨b, i, none⟩ = w.cell? ⟨b, i, none⟩ := by simp [World.cell?, h]
/-- No two numbers stand beside each other. -/
def NoMark (L : List Value) : Prop := ∀ i n m, L[i]? = some (.int .i64 n) → L[i + 1]? = some (.int .i64 m) → False
theorem MarksAt.only {w w' : World} {sv : Value} {l : List Mk} {t : Nat} {L : List Value} (h : MarksAt w sv l) (ho : Only (fun k => k = t) w w') (ht : Blk w t L) (hL : NoMark L) : MarksAt w' sv l := by
  obtain ⟨a, cap, e, hc⟩ := h
  refine ⟨a, cap, e, fun i x hx => ?_⟩
  obtain ⟨b, o, e2, h1, h2⟩ := hc i x hx
  have hb : b ≠ t := by
    rintro rfl
    exact hL _ _ _ (ht.inv h1) (ht.inv h2)
  refine ⟨b, o, e2, ?_, ?_⟩
  · rw [← h1]
    exact cell_same (ho.block b (block_lt_of_cell h1) hb)
  · rw [← h2]
    exact cell_same (ho.block b (block_lt_of_cell h2) hb)
/-- Marks of one's own: their row was made from B on. -/
def OwnM (w : World) (B : Nat) (sv : Value) (l : List Mk) : Prop := w.ownsRow B 68 2 sv l.length (i64s (flat l))
theorem OwnM.nil (w : World) (B : Nat) : OwnM w B (.slice none 0 0) [] := World.ownsRow_nil w B 68 2
theorem OwnM.marks {w : World} {B : Nat} {sv : Value} {l : List Mk} (h : OwnM w B sv l) : MarksAt w sv l := by
  rcases h.2 with ⟨rfl, h0⟩ | ⟨g, cap, cur, rfl, hb, hg, hn, hm, hs, ht⟩
  · have : l = [] := List.eq_nil_of_length_eq_zero h0
    subst this
    exact MarksAt.nil _ _ _
  · refine ⟨_, cap, rfl, fun i x hx => ⟨g, 0, rfl, ?_, ?_⟩⟩
    · have hi := (List.getElem?_eq_some_iff.1 hx).1
      rw [Nat.zero_add, World.ownsRow.cellAt h (i * 2) (by omega), List.getElem?_map, Nat.mul_comm, flat_fst, hx]
      rfl
    · have hi := (List.getElem?_eq_some_iff.1 hx).1
      rw [Nat.zero_add, World.ownsRow.cellAt h (i * 2 + 1) (by omega), List.getElem?_map, Nat.mul_comm, flat_snd, hx]
      rfl
theorem OwnM.lt {w : World} {B : Nat} {sv : Value} {l : List Mk} (h : OwnM w B sv l) : ∀ k, sv.ownBlock = some k → B ≤ k ∧ k < w.heap.size := World.ownsRow.lt h
theorem OwnM.below {w w' : World} {B : Nat} {sv : Value} {l : List Mk} (h : OwnM w B sv l) (hb : Below w.heap.size w w') : OwnM w' B sv l := by
  refine ⟨h.1, ?_⟩
  rcases h.2 with hn | ⟨g, cap, cur, e, hB, hg, r⟩
  · exact .inl hn
  · exact .inr ⟨g, cap, cur, e, hB, (hb.block g (Array.getElem?_eq_some_iff.1 hg).1).trans hg, r⟩
theorem OwnM.mono {w : World} {B C : Nat} {sv : Value} {l : List Mk} (h : OwnM w B sv l) (hc : C ≤ B) : OwnM w C sv l := World.ownsRow.mono h hc
theorem inf68 : ∃ i, Tryz.prog.info? 68 = some i ∧ i.zero = some (.agg #[.int .i64 0, .int .i64 0]) ∧ i.size = 2 ∧ i.bytes = 16 := by
  have := info68
  cases hq : Tryz.prog.info? 68 with
  | none => simp [hq] at this
  | some i => simp [hq] at this; exact ⟨i, rfl, this⟩
theorem OwnM.lit (w : World) (B : Nat) (hB : B ≤ w.heap.size) (l : List Mk) (hl : l.length ≤ 1000000) (cs : Array Value) (hc : cs = (i64s (flat l)).toArray) : OwnM (w.alloc (.cells cs 68)) B (.slice (some ⟨w.heap.size, 0, none⟩) l.length l.length) l := by
  subst hc
  refine ⟨by rw [List.length_map, sflat_length]; omega, .inr ⟨w.heap.size, l.length, _, rfl, hB, heap_alloc_new w _, Nat.le_refl _, by simp only [maxLen]; omega, by simp [sflat_length]; omega, List.take_of_length_le (by simp [sflat_length]; omega)⟩⟩
end Go.Proofs.YthlnmdihdcfphaaGreatDoor
