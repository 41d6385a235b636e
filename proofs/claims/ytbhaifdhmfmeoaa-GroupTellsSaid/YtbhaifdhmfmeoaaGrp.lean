/- What a group's sectors are, and what group sectors begin with: lists of numbers, no memory. -/
import Derived.Test.YtbhaifdhmfmeoaaSdec
namespace Go.Proofs.Ytbhaifdhmfmeoaa
set_option linter.unusedSimpArgs false
set_option linter.unusedVariables false

/-- An item: a mark, and its block. -/
structure It where
  mark : Mk
  blk : Bk
structure It.Wf (x : It) : Prop where
  k : Small x.mark.1
  i : Small x.mark.2
  b : x.blk.Wf
def It.has (x : It) : Bool := hasBlock x.mark.1
def slotOf (m : Mk) : Int := if m.1 = 3 then 64 + m.2 else m.2
def Bk.isZ (b : Bk) : Bool := decide (b.kind = 0) && decide (b.id = 0) && decide (b.page = zeros 32) && decide (b.off = 0) && decide (b.bytes.length = 0) && decide (b.prev = 0) && decide (b.heads = zeros 8)
theorem isZ_iff (b : Bk) : b.isZ = true ↔ b = Bk.none := by
  obtain ⟨k, i, p, o, y, v, h⟩ := b
  simp [Bk.isZ, Bk.none, and_assoc]
/-- Is its block what its mark asks for? -/
def It.fits (x : It) : Bool := if x.has then decide (x.blk.kind = x.mark.1) && decide (x.blk.id = x.mark.2) && x.blk.good else x.blk.isZ
def It.ok (x : It) : Bool := okMark x.mark && x.fits
abbrev slots (l : List It) : List Int := l.map fun x => slotOf x.mark
/-- May items be a group? -/
def mayBe (l : List It) : Bool := decide (1 ≤ l.length) && decide (l.length ≤ 64) && l.all It.ok && decide (slots l).Nodup
theorem mayBe_iff {l : List It} : mayBe l = true ↔ 1 ≤ l.length ∧ l.length ≤ 64 ∧ (∀ x ∈ l, x.ok = true) ∧ (slots l).Nodup := by
  simp [mayBe, and_assoc]
theorem ok_mark {x : It} (h : x.ok = true) : okMark x.mark = true := by
  simp only [It.ok, Bool.and_eq_true] at h
  exact h.1
theorem ok_has {x : It} (h : x.ok = true) (k : x.has = true) : x.blk.kind = x.mark.1 ∧ x.blk.id = x.mark.2 ∧ x.blk.good = true := by
  simp only [It.ok, It.fits, Bool.and_eq_true, k, if_true, decide_eq_true_eq] at h
  exact ⟨h.2.1.1, h.2.1.2, h.2.2⟩
theorem ok_not {x : It} (h : x.ok = true) (k : x.has = false) : x.blk = Bk.none := by
  simp only [It.ok, It.fits, Bool.and_eq_true, k, Bool.false_eq_true, if_false] at h
  exact (isZ_iff _).1 h.2
theorem slot_range {m : Mk} (h : okMark m = true) : 0 ≤ slotOf m ∧ slotOf m < 72 := by
  have := okMark_iff.1 h
  unfold slotOf
  split <;> omega
theorem has_iff (x : It) : x.has = true ↔ 1 ≤ x.mark.1 ∧ x.mark.1 ≤ 3 := by simp [It.has, hasBlock]

/-- How many parts so many items have. -/
def parts (n : Nat) : Nat := (n + 23) / 24
abbrev marks (l : List It) : List Mk := l.map It.mark
def M32 : Int := 4294967296
abbrev chunk (l : List It) (k : Nat) : List It := (l.drop (24 * k)).take 24
/-- A part's summary. -/
def headOfPart (n : Int) (more : Bool) (p : List It) : List Int := Sm.sec ⟨n, more, marks p⟩
abbrev St := List (List Int) × List Int
def stepIt (n : Int) (st : St) (x : It) : St := if x.has then (st.1 ++ [x.blk.sec n], st.2 ++ [(st.1.length : Int)]) else (st.1, st.2 ++ [-1])
def stepPart (n : Int) (more : Bool) (p : List It) (st : St) : St := p.foldl (stepIt n) (st.1 ++ [headOfPart n more p], st.2)
/-- What so many parts come to. -/
def layTo (n : Int) (l : List It) : Nat → St
  | 0 => ([], [])
  | k + 1 => stepPart ((n + k) % M32) (decide (24 * k + 24 < l.length)) (chunk l k) (layTo n l k)
def lay2 (n : Int) (l : List It) : St := layTo n l (parts l.length)
def bodies (n : Int) (p : List It) : List (List Int) := (p.filter It.has).map fun x => x.blk.sec n
def partOf (n : Int) (more : Bool) (p : List It) : List (List Int) := headOfPart n more p :: bodies n p
def atOf : Nat → List It → List Int
  | _, [] => []
  | c, x :: r => if x.has then (c : Int) :: atOf (c + 1) r else -1 :: atOf c r
theorem foldl_step (n : Int) (p : List It) (st : St) : p.foldl (stepIt n) st = (st.1 ++ bodies n p, st.2 ++ atOf st.1.length p) := by
  induction p generalizing st with
  | nil => simp [bodies, atOf]
  | cons x r ih =>
    rw [List.foldl_cons, ih]
    unfold stepIt
    cases h : x.has
    · simp [bodies, h, atOf]
    · simp [bodies, h, atOf]
theorem layTo_succ (n : Int) (l : List It) (k : Nat) : (layTo n l (k + 1)).1 = (layTo n l k).1 ++ partOf ((n + k) % M32) (decide (24 * k + 24 < l.length)) (chunk l k) := by
  rw [layTo, stepPart, foldl_step]
  simp [partOf]
theorem bodies_length (n : Int) (p : List It) : (bodies n p).length = blocks (marks p) := by
  induction p with
  | nil => rfl
  | cons x r ih =>
    simp only [bodies, marks, List.map_cons, blocks, List.filter_cons] at ih ⊢
    cases h : x.has
    · have : hasBlock x.mark.1 = false := h
      simp [this, ih]
    · have : hasBlock x.mark.1 = true := h
      simp [this, ih]
      omega
theorem partOf_length (n : Int) (m : Bool) (p : List It) : (partOf n m p).length = 1 + blocks (marks p) := by
  simp only [partOf, List.length_cons, bodies_length]
  omega
theorem atOf_length (c : Nat) (p : List It) : (atOf c p).length = p.length := by
  induction p generalizing c with
  | nil => rfl
  | cons x r ih => simp only [atOf]; split <;> simp [ih]
theorem take_chunk (l : List It) (k : Nat) : l.take (24 * (k + 1)) = l.take (24 * k) ++ chunk l k := by
  rw [Nat.mul_add, Nat.mul_one, List.take_add]
theorem layTo_length (n : Int) (l : List It) (k : Nat) : (layTo n l k).1.length = k + blocks (marks (l.take (24 * k))) := by
  induction k with
  | zero => simp [layTo, blocks]
  | succ k ih =>
    rw [layTo_succ, List.length_append, ih, partOf_length, take_chunk]
    simp only [marks, List.map_append, blocks_append]
    omega
theorem layTo_at (n : Int) (l : List It) (k : Nat) : (layTo n l k).2.length = (l.take (24 * k)).length := by
  induction k with
  | zero => simp [layTo]
  | succ k ih =>
    rw [layTo, stepPart, foldl_step, List.length_append, atOf_length, ih, take_chunk, List.length_append]
theorem parts_le (n : Nat) : n ≤ 24 * parts n := by unfold parts; omega
theorem lay2_length (n : Int) (l : List It) : (lay2 n l).1.length = parts l.length + blocks (marks l) := by
  rw [lay2, layTo_length, List.take_of_length_le (parts_le _)]
theorem lay2_at (n : Int) (l : List It) : (lay2 n l).2.length = l.length := by
  rw [lay2, layTo_at, List.take_of_length_le (parts_le _)]
theorem bsec_sc {b : Bk} (w : b.Wf) (n : Int) : Sc (b.sec n) := by
  unfold Bk.sec
  split
  · rename_i h
    exact enc_sc h w n
  · exact ⟨zeros_length 64, zeros_byte 64⟩
theorem part_sc {p : List It} (w : ∀ x ∈ p, x.Wf) (n : Int) (m : Bool) : ∀ y ∈ partOf n m p, Sc y := by
  intro y hy
  rcases List.mem_cons.1 hy with rfl | hy
  · exact sec_sc _
  · obtain ⟨x, hx, rfl⟩ := List.mem_map.1 hy
    exact bsec_sc (w x ((List.mem_filter.1 hx).1)).b n
theorem mem_chunk {l : List It} {k : Nat} {x : It} (h : x ∈ chunk l k) : x ∈ l := List.mem_of_mem_drop (List.mem_of_mem_take h)
theorem layTo_sc {l : List It} (w : ∀ x ∈ l, x.Wf) (n : Int) (k : Nat) : ∀ y ∈ (layTo n l k).1, Sc y := by
  induction k with
  | zero => intro y hy; cases hy
  | succ k ih =>
    intro y hy
    rw [layTo_succ] at hy
    rcases List.mem_append.1 hy with hy | hy
    · exact ih y hy
    · exact part_sc (fun x hx => w x (mem_chunk hx)) _ _ y hy

/-- The items of marks whose blocks sectors begin with. -/
def itemsP : List Mk → List (List Int) → Option (List It)
  | [], _ => some []
  | m :: r, s => if hasBlock m.1 then (match s with
      | [] => none
      | y :: t => if isBlock y then (itemsP r t).map (⟨m, readOf y⟩ :: ·) else none)
    else (itemsP r s).map (⟨m, Bk.none⟩ :: ·)
/-- The items that the parts tell of with which sectors begin, and how many sectors these are. -/
def gat (L : List (List Int)) : Nat → List It → Nat → List It × Nat
  | 0, _, _ => ([], 0)
  | f + 1, its, t => match L[t]? with
    | none => ([], 0)
    | some y => if its.length ≤ 64 ∧ isSum y = true then (match itemsP (sreadOf y).marks (L.drop (t + 1)) with
        | none => ([], 0)
        | some p => if (sreadOf y).more then gat L f (its ++ p) (t + (1 + blocks (sreadOf y).marks)) else (its ++ p, t + (1 + blocks (sreadOf y).marks)))
      else ([], 0)
def gather (L : List (List Int)) : List It × Nat := gat L (L.length + 1) [] 0
/-- The group with which sectors begin. -/
def readP (n : Int) (L : List (List Int)) : Option (List It) := if mayBe (gather L).1 && decide ((lay2 n (gather L).1).1 = L.take (gather L).2) then some (gather L).1 else none

def Seq32 (n : Int) : Prop := 0 ≤ n ∧ n < M32
theorem seq_mod (n : Int) : Seq32 (n % M32) := ⟨Int.emod_nonneg _ (by decide), Int.emod_lt_of_pos _ (by decide)⟩
theorem marks_good {l : List It} (h : mayBe l = true) {k : Nat} (hk : k < parts l.length) : goodMarks (marks (chunk l k)) = true := by
  obtain ⟨h1, h2, h3, -⟩ := mayBe_iff.1 h
  have hp : parts l.length = (l.length + 23) / 24 := rfl
  unfold goodMarks
  simp only [Bool.and_eq_true, decide_eq_true_eq, List.all_eq_true, List.length_map, List.length_take, List.length_drop]
  refine ⟨⟨by omega, by omega⟩, fun m hm => ?_⟩
  obtain ⟨x, hx, rfl⟩ := List.mem_map.1 hm
  exact ok_mark (h3 x (mem_chunk hx))
theorem head_sum {p : List It} (hg : goodMarks (marks p) = true) (w : ∀ x ∈ p, x.Wf) {n : Int} (hn : Seq32 n) (m : Bool) : isSum (headOfPart n m p) = true ∧ sreadOf (headOfPart n m p) = ⟨n, m, marks p⟩ ∧ headOfPart n m p = Sm.enc ⟨n, m, marks p⟩ := by
  have hs : Sm.good ⟨n, m, marks p⟩ = true := hg
  have hw : Sm.Wf ⟨n, m, marks p⟩ := ⟨hn, fun q hq => by
    obtain ⟨x, hx, rfl⟩ := List.mem_map.1 hq
    exact ⟨(w x hx).k, (w x hx).i⟩⟩
  have e : headOfPart n m p = Sm.enc ⟨n, m, marks p⟩ := by
    unfold headOfPart Sm.sec
    rw [if_pos hs]
  rw [e]
  exact ⟨isSum_enc hs hw, sread_enc hs hw, rfl⟩
theorem body_is {x : It} (h : x.ok = true) (k : x.has = true) (w : x.Wf) {n : Int} (hn : Seq32 n) : isBlock (x.blk.sec n) = true ∧ readOf (x.blk.sec n) = x.blk ∧ seqOf (x.blk.sec n) = n ∧ x.blk.sec n = x.blk.enc n := by
  have hg := (ok_has h k).2.2
  have e : x.blk.sec n = x.blk.enc n := by
    unfold Bk.sec
    rw [if_pos hg]
  rw [e]
  obtain ⟨h1, h2⟩ := read_enc hg w.b n hn
  exact ⟨isBlock_enc hg w.b n hn, h1, h2, rfl⟩
theorem itemsP_lay {p : List It} (h : ∀ x ∈ p, x.ok = true) (w : ∀ x ∈ p, x.Wf) {n : Int} (hn : Seq32 n) (r : List (List Int)) : itemsP (marks p) (bodies n p ++ r) = some p := by
  induction p with
  | nil => rfl
  | cons x q ih =>
    have ih := ih (fun y hy => h y (List.mem_cons_of_mem _ hy)) (fun y hy => w y (List.mem_cons_of_mem _ hy))
    have hx := h x (by simp)
    have hh : hasBlock x.mark.1 = x.has := rfl
    simp only [marks, List.map_cons, itemsP, hh] at ih ⊢
    cases k : x.has
    · have e := ok_not hx k
      have : bodies n (x :: q) = bodies n q := by simp [bodies, k]
      rw [this, ih]
      simp only [Bool.false_eq_true, if_false, Option.map_some]
      rw [← e]
    · obtain ⟨b1, b2, -, -⟩ := body_is hx k (w x (by simp)) hn
      have : bodies n (x :: q) = x.blk.sec n :: bodies n q := by simp [bodies, k]
      rw [this, List.cons_append]
      simp only [if_true, b1, ih, Option.map_some, b2]
theorem gat_step {L : List (List Int)} {n : Int} (hn : Seq32 n) {m : Bool} {p : List It} {t : Nat} {r : List (List Int)} (hL : L.drop t = partOf n m p ++ r) (hg : goodMarks (marks p) = true) (hp : ∀ x ∈ p, x.ok = true) (w : ∀ x ∈ p, x.Wf) (f : Nat) (its : List It) (hi : its.length ≤ 64) :
    gat L (f + 1) its t = if m then gat L f (its ++ p) (t + (1 + blocks (marks p))) else (its ++ p, t + (1 + blocks (marks p))) := by
  obtain ⟨s1, s2, -⟩ := head_sum hg w hn m
  have h0 : L[t]? = some (headOfPart n m p) := by
    have := congrArg (fun z => z[0]?) hL
    simpa [partOf] using this
  have h1 : L.drop (t + 1) = bodies n p ++ r := by
    have := congrArg List.tail hL
    simpa [partOf] using this
  simp only [gat, h0, s1, hi, and_self, if_true, s2, h1, itemsP_lay hp w hn r]
/-- What the parts behind k tell of is told from k on. -/
theorem gat_lay {n : Int} {l : List It} (h : mayBe l = true) (w : ∀ x ∈ l, x.Wf) {L : List (List Int)} (hL : (lay2 n l).1 <+: L) :
    ∀ j k f, k + j + 1 = parts l.length → j < f → gat L f (l.take (24 * k)) (layTo n l k).1.length = (l, (lay2 n l).1.length) := by
  have hM := mayBe_iff.1 h
  have hpre : ∀ k, k ≤ parts l.length → (layTo n l k).1 <+: L := fun k hk => by
    refine List.IsPrefix.trans ?_ hL
    unfold lay2
    obtain ⟨d, hd⟩ := Nat.exists_eq_add_of_le hk
    rw [hd]
    clear hd hk
    induction d with
    | zero => exact List.prefix_refl _
    | succ d ih => rw [← Nat.add_assoc, layTo_succ]; exact ih.trans (List.prefix_append _ _)
  have hpt : ∀ k, k < parts l.length → ∃ r, L.drop (layTo n l k).1.length = partOf ((n + k) % M32) (decide (24 * k + 24 < l.length)) (chunk l k) ++ r := fun k hk => by
    obtain ⟨r, hr⟩ := hpre (k + 1) hk
    rw [layTo_succ, List.append_assoc] at hr
    exact ⟨r, by rw [← hr, List.drop_left]⟩
  have hpp : parts l.length = (l.length + 23) / 24 := rfl
  have hlen : ∀ k, (layTo n l (k + 1)).1.length = (layTo n l k).1.length + (1 + blocks (marks (chunk l k))) := fun k => by
    rw [layTo_succ, List.length_append, partOf_length]
  intro j
  induction j with
  | zero =>
    intro k f hk hf
    obtain ⟨f, rfl⟩ : ∃ g, f = g + 1 := ⟨f - 1, by omega⟩
    obtain ⟨r, hr⟩ := hpt k (by omega)
    have hm : decide (24 * k + 24 < l.length) = false := decide_eq_false (by omega)
    rw [gat_step (seq_mod _) hr (marks_good h (by omega)) (fun x hx => hM.2.2.1 x (mem_chunk hx)) (fun x hx => w x (mem_chunk hx)) f _ (by rw [List.length_take]; omega), hm]
    simp only [Bool.false_eq_true, if_false]
    rw [← take_chunk, ← hlen, List.take_of_length_le (by omega), lay2, ← hk]
  | succ j ih =>
    intro k f hk hf
    obtain ⟨f, rfl⟩ : ∃ g, f = g + 1 := ⟨f - 1, by omega⟩
    obtain ⟨r, hr⟩ := hpt k (by omega)
    have hm : decide (24 * k + 24 < l.length) = true := decide_eq_true (by omega)
    rw [gat_step (seq_mod _) hr (marks_good h (by omega)) (fun x hx => hM.2.2.1 x (mem_chunk hx)) (fun x hx => w x (mem_chunk hx)) f _ (by rw [List.length_take]; omega), hm]
    simp only [if_true]
    rw [← take_chunk, ← hlen]
    exact ih (k + 1) f (by omega) (by omega)
theorem parts_pos {l : List It} (h : mayBe l = true) : 1 ≤ parts l.length ∧ parts l.length ≤ 3 := by
  obtain ⟨h1, h2, -⟩ := mayBe_iff.1 h
  unfold parts
  omega
theorem gather_lay {n : Int} {l : List It} (h : mayBe l = true) (w : ∀ x ∈ l, x.Wf) {L : List (List Int)} (hL : (lay2 n l).1 <+: L) : gather L = (l, (lay2 n l).1.length) := by
  have hp := (parts_pos h).1
  have h1 := hL.length_le
  have h2 := lay2_length n l
  have := gat_lay h w hL (parts l.length - 1) 0 (L.length + 1) (by omega) (by omega)
  simpa [layTo, gather] using this
theorem readP_of {n : Int} {l : List It} (h : mayBe l = true) (w : ∀ x ∈ l, x.Wf) {L : List (List Int)} (hL : (lay2 n l).1 <+: L) : readP n L = some l := by
  have hg := gather_lay h w hL
  unfold readP
  rw [hg]
  simp only [h, Bool.true_and]
  rw [if_pos]
  exact decide_eq_true (List.prefix_iff_eq_take.1 hL)
theorem readP_some {n : Int} {l : List It} {L : List (List Int)} (h : readP n L = some l) : mayBe l = true ∧ (lay2 n l).1 <+: L ∧ gather L = (l, (gather L).2) := by
  unfold readP at h
  split at h
  · rename_i hc
    cases h
    simp only [Bool.and_eq_true, decide_eq_true_eq] at hc
    refine ⟨hc.1, ?_, rfl⟩
    rw [hc.2]
    exact List.take_prefix _ _
  · cases h
theorem itemsP_wf {ms : List Mk} (hm : ∀ m ∈ ms, Small m.1 ∧ Small m.2) {s : List (List Int)} (hs : ∀ y ∈ s, Sc y) {l : List It} (h : itemsP ms s = some l) : ∀ x ∈ l, x.Wf := by
  induction ms generalizing s l with
  | nil => cases h; intro x hx; cases hx
  | cons m r ih =>
    have hm1 := hm m (by simp)
    have hm2 := fun q hq => hm q (List.mem_cons_of_mem _ hq)
    unfold itemsP at h
    split at h
    · cases s with
      | nil => cases h
      | cons y t =>
        simp only at h
        split at h
        · obtain ⟨q, hq, rfl⟩ := Option.map_eq_some_iff.1 h
          intro x hx
          rcases List.mem_cons.1 hx with rfl | hx
          · exact ⟨hm1.1, hm1.2, readOf_wf (hs y (by simp))⟩
          · exact ih hm2 (fun z hz => hs z (List.mem_cons_of_mem _ hz)) hq x hx
        · cases h
    · obtain ⟨q, hq, rfl⟩ := Option.map_eq_some_iff.1 h
      intro x hx
      rcases List.mem_cons.1 hx with rfl | hx
      · exact ⟨hm1.1, hm1.2, none_wf⟩
      · exact ih hm2 hs hq x hx
theorem gat_wf {L : List (List Int)} (hL : ∀ y ∈ L, Sc y) : ∀ f its t, (∀ x ∈ its, It.Wf x) → ∀ x ∈ (gat L f its t).1, x.Wf := by
  intro f
  induction f with
  | zero => intro its t _ x hx; cases hx
  | succ f ih =>
    intro its t hi
    unfold gat
    split
    · intro x hx; cases hx
    · rename_i y hy
      split
      · rename_i hc
        cases e : itemsP (sreadOf y).marks (L.drop (t + 1)) with
        | none => intro x hx; cases hx
        | some p =>
          have hp := itemsP_wf (marksOf_small (hL y (List.mem_of_getElem? hy)) _) (fun z hz => hL z (List.mem_of_mem_drop hz)) e
          have ha : ∀ x ∈ its ++ p, It.Wf x := fun x hx => (List.mem_append.1 hx).elim (hi x) (hp x)
          simp only
          split
          · exact ih _ _ ha
          · exact ha
      · intro x hx; cases hx
theorem readP_wf {n : Int} {l : List It} {L : List (List Int)} (hL : ∀ y ∈ L, Sc y) (h : readP n L = some l) : ∀ x ∈ l, x.Wf := by
  have := gat_wf hL (L.length + 1) [] 0 (fun x hx => by cases hx)
  have e := (readP_some h).2.2
  unfold gather at e
  rw [e] at this
  exact this
theorem readP_iff {n : Int} {l : List It} {L : List (List Int)} (hL : ∀ y ∈ L, Sc y) : readP n L = some l ↔ mayBe l = true ∧ (∀ x ∈ l, x.Wf) ∧ (lay2 n l).1 <+: L :=
  ⟨fun h => ⟨(readP_some h).1, readP_wf hL h, (readP_some h).2.1⟩, fun ⟨h1, h2, h3⟩ => readP_of h1 h2 h3⟩
theorem readP_taken {n : Int} {l : List It} {L : List (List Int)} (hL : ∀ y ∈ L, Sc y) (h : readP n L = some l) : gather L = (l, (lay2 n l).1.length) := by
  obtain ⟨h1, h2, h3⟩ := (readP_iff hL).1 h
  exact gather_lay h1 h2 h3
end Go.Proofs.Ytbhaifdhmfmeoaa
