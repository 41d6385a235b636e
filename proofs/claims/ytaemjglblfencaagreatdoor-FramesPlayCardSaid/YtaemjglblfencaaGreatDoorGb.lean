/- Frames beside what others keep. -/
import Derived.Test.YtaemjglblfencaaGreatDoorGa
namespace Go.Proofs.YtaemjglblfencaaGreatDoor
set_option linter.unusedSimpArgs false
set_option linter.unusedVariables false
open Go.RowKit Kl

/-- Frames beside what others keep (G: their blocks, and all that was there at the start). -/
structure Fz (W : World) (G : Nat → Prop) (w : World) (L : Lay) (s : Fs) : Prop where
  fw : ∃ ps, FAt w L ps s ∧ ∀ k, Foot L ps k → ¬ G k
  g : ∀ k, G k → k < w.heap.size
  old : ∀ k, k < W.heap.size → G k
  bel : Below W.heap.size W w
section
variable {W w w' : World} {G G' : Nat → Prop} {L : Lay} {s s' : Fs} {B : Nat}
theorem Fz.below (h : Fz W G w L s) (hb : Below w.heap.size w w') : Fz W G w' L s :=
  ⟨let ⟨ps, h1, h2⟩ := h.fw; ⟨ps, h1.below hb, h2⟩, fun k hk => Nat.lt_of_lt_of_le (h.g k hk) hb.size, h.old, stay h.bel hb⟩
theorem Fz.wbel (h : Fz W G w L s) (ho : Only (fun k => ¬ G k) w w') : Below W.heap.size W w' := h.bel.trans (ho.below h.bel.size fun k hk => Nat.le_of_not_lt fun hlt => hk (h.old k hlt))
theorem Fz.only {S : Nat → Prop} (h : Fz W G w L s) (ho : Only S w w') (hS : ∀ k, S k → G k ∧ W.heap.size ≤ k) : Fz W G w' L s :=
  ⟨let ⟨ps, h1, h2⟩ := h.fw; ⟨ps, h1.only ho fun k hk hs => h2 k hk (hS k hs).1, h2⟩, fun k hk => Nat.lt_of_lt_of_le (h.g k hk) ho.size, h.old, h.bel.trans (ho.below h.bel.size fun k hk => (hS k hk).2)⟩
theorem Fz.add (h : Fz W G w L s) (hok : s.Ok B) (hb : Below w.heap.size w w') (h1 : ∀ k, G k → G' k) (h2 : ∀ k, G' k → G k ∨ (w.heap.size ≤ k ∧ k < w'.heap.size)) : Fz W G' w' L s := by
  obtain ⟨ps, ha, hf⟩ := h.fw
  refine ⟨⟨ps, ha.below hb, fun k hk hg => ?_⟩, fun k hk => ?_, fun k hk => h1 k (h.old k hk), stay h.bel hb⟩
  · rcases h2 k hg with h3 | h3
    · exact hf k hk h3
    · have := ha.lt hok hk
      omega
  · rcases h2 k hk with h3 | h3
    · exact Nat.lt_of_lt_of_le (h.g k h3) hb.size
    · exact h3.2
theorem Fz.less (h : Fz W G w L s) (h1 : ∀ k, G' k → G k) (h2 : ∀ k, k < W.heap.size → G' k) : Fz W G' w L s :=
  ⟨let ⟨ps, ha, hf⟩ := h.fw; ⟨ps, ha, fun k hk hg => hf k hk (h1 k hg)⟩, fun k hk => h.g k (h1 k hk), h2, h.bel⟩
theorem Fz.held {ps : List (Option Nat)} (h : Fz W G w L s) (hp : ∀ k, Foot L ps k → ¬ G k) (hh : Held w w' L ps s') : Fz W G w' L s' ∧ Only (fun k => ¬ G k) w w' := by
  obtain ⟨ps', h1, h2, h3⟩ := hh
  have ho : Only (fun k => ¬ G k) w w' := h2.more fun k _ hk => hp k hk
  refine ⟨⟨⟨ps', h1, fun k hk hg => ?_⟩, fun k hk => Nat.lt_of_lt_of_le (h.g k hk) ho.size, h.old, h.wbel ho⟩, ho⟩
  rcases hk with e | e | e | e | e
  · exact hp k (.inl e) hg
  · exact hp k (.inr (.inl e)) hg
  · exact hp k (.inr (.inr (.inl e))) hg
  · exact hp k (.inr (.inr (.inr (.inl e)))) hg
  · rcases h3 k e with h4 | h4
    · exact hp k (.inr (.inr (.inr (.inr h4)))) hg
    · have := h.g k hg
      omega
theorem Fz.ev (h : Fz W G w L s) (hev : ErrVar W) : ErrVar w := hev.below (Nat.le_refl _) h.bel
theorem Fz.b (h : Fz W G w L s) : ¬ G L.b := let ⟨_, _, h2⟩ := h.fw; h2 _ (.inl rfl)

theorem fz_hold (h : Fz W G w L s) (ho : s.Ok B) (i p : Int) {base : List Int} (hl : Pg base) : Calls Tryz.prog 9 #[.pointer (some ⟨L.b, 0, none⟩), .int .i64 i, .int .i64 p, .agg (u8s base).toArray] w fun e w' => e = .returned (.bool (s.hold i p base).1) ∧ Fz W G w' L (s.hold i p base).2 ∧ Only (fun k => ¬ G k) w w' := by
  obtain ⟨ps, ha, hf⟩ := h.fw
  exact (Hold_any ha ho i p hl).mono fun e w' ⟨h1, h2⟩ => ⟨h1, h.held hf h2⟩
theorem fz_holdMap (h : Fz W G w L s) (ho : s.Ok B) (i id : Int) (hid : Kl.Small id) {heads : List Int} (hl : heads.length = 8) : Calls Tryz.prog 12 #[.pointer (some ⟨L.b, 0, none⟩), .int .i64 i, .int .i64 id, .agg (i64s heads).toArray] w fun e w' => e = .returned (.bool (s.holdMap i id heads).1) ∧ Fz W G w' L (s.holdMap i id heads).2 ∧ Only (fun k => ¬ G k) w w' := by
  obtain ⟨ps, ha, hf⟩ := h.fw
  exact (HoldMap_any ha ho i id hid hl).mono fun e w' ⟨h1, h2⟩ => ⟨h1, h.held hf h2⟩
theorem fz_write (h : Fz W G w L s) (ho : s.Ok B) (hev : ErrVar W) (p off : Int) (sv : Value) (l : List Int) (hl : l.length ≤ 1000) (hbs : BytesAt w sv l) : Calls Tryz.prog 14 #[.pointer (some ⟨L.b, 0, none⟩), .int .i64 p, .int .i64 off, sv] w fun e w' => e = .returned (.int .i64 (s.write p off l).1) ∧ Fz W G w' L (s.write p off l).2 ∧ Only (fun k => ¬ G k) w w' := by
  obtain ⟨ps, ha, hf⟩ := h.fw
  exact (Write_any ha ho p off sv l hl hbs (h.ev hev)).mono fun e w' ⟨h1, h2⟩ => ⟨h1, h.held hf h2⟩
theorem fz_clean (h : Fz W G w L s) (ho : s.Ok B) (p : Int) : Calls Tryz.prog 16 #[.pointer (some ⟨L.b, 0, none⟩), .int .i64 p] w fun e w' => e = .returned (.tuple #[]) ∧ Fz W G w' L (s.clean p) ∧ Only (fun k => ¬ G k) w w' := by
  obtain ⟨ps, ha, hf⟩ := h.fw
  exact (Clean_any ha ho p).mono fun e w' ⟨h1, h2⟩ => ⟨h1, h.held hf h2⟩
theorem fz_forget (h : Fz W G w L s) (ho : s.Ok B) (key : Int) : Calls Tryz.prog 18 #[.pointer (some ⟨L.b, 0, none⟩), .int .i64 key] w fun e w' => e = .returned (.bool (s.forgets key)) ∧ Fz W G w' L (s.forget key) ∧ Only (fun k => ¬ G k) w w' := by
  obtain ⟨ps, ha, hf⟩ := h.fw
  exact (Forget_any ha ho key).mono fun e w' ⟨h1, h2⟩ => ⟨h1, h.held hf h2⟩
theorem fz_page (h : Fz W G w L s) (ho : s.Ok B) (p : Int) : Calls Tryz.prog 27 #[.pointer (some ⟨L.b, 0, none⟩), .int .i64 p] w fun e w' => e = .returned (pageR (s.held p)) ∧ Below w.heap.size w w' := by
  obtain ⟨ps, ha, hf⟩ := h.fw
  exact Page_any ha ho p
theorem fz_map (h : Fz W G w L s) (ho : s.Ok B) (id : Int) (hid : Kl.Small id) : Calls Tryz.prog 29 #[.pointer (some ⟨L.b, 0, none⟩), .int .i64 id] w fun e w' => e = .returned (mapR (s.heldMap id)) ∧ Below w.heap.size w w' := by
  obtain ⟨ps, ha, hf⟩ := h.fw
  exact Map_any ha ho id hid
theorem fz_dirty (h : Fz W G w L s) (ho : s.Ok B) : Calls Tryz.prog 25 #[.pointer (some ⟨L.b, 0, none⟩)] w fun e w' => ∃ sv, e = .returned sv ∧ Kl.Own w' w.heap.size sv s.dirties ∧ Below w.heap.size w w' := by
  obtain ⟨ps, ha, hf⟩ := h.fw
  exact Dirty_any ha ho
theorem fz_clock (h : Fz W G w L s) : Calls Tryz.prog 8 #[.pointer (some ⟨L.b, 0, none⟩)] w fun e w' => e = .returned (.pointer (some ⟨L.cb, 0, none⟩)) ∧ w = w' := by
  obtain ⟨ps, ha, hf⟩ := h.fw
  exact clockF_any ha
theorem Fz.clock {ps : List (Option Nat)} {c : Ck} (h : Fz W G w L s) (ha : FAt w L ps s) (hf : ∀ k, Foot L ps k → ¬ G k) (hc : Kl.At encC w' L.cb L.cr L.cap [] c) (ho : Only (foot L.cb L.cr) w w') (hl : c.l.length = s.c.l.length) (hk : ∀ (k : Nat) (f : Fm), c.l[k]? = some f → ∃ f', s.c.l[k]? = some f' ∧ f'.key = f.key) : Fz W G w' L { s with c := c } ∧ Only (fun k => ¬ G k) w w' := by
  have hon : Only (fun k => ¬ G k) w w' := ho.more fun k _ hk => hf k (foot_Foot k hk)
  exact ⟨⟨⟨ps, ha.clock hc ho hl hk, hf⟩, fun k hk => Nat.lt_of_lt_of_le (h.g k hk) ho.size, h.old, h.wbel hon⟩, hon⟩
theorem fz_pin (h : Fz W G w L s) (ho : s.Ok B) (hB : B ≤ 1000000) (i : Int) : Calls Tryz.prog 20 #[.pointer (some ⟨L.cb, 0, none⟩), .int .i64 i] w fun e w' => e = .returned (.bool (s.c.keyed i)) ∧ Fz W G w' L { s with c := s.c.pin i } ∧ Only (fun k => ¬ G k) w w' := by
  obtain ⟨ps, ha, hf⟩ := h.fw
  exact (pin_any w L.cb L.cr L.cap [] s.c ha.clk ho.ck hB i).mono fun e w' ⟨h1, h2, h3⟩ => ⟨h1, h.clock ha hf h2 h3 (Ck.pin_len _ _) (pin_keys _ _)⟩
theorem fz_unpin (h : Fz W G w L s) (ho : s.Ok B) (hB : B ≤ 1000000) (i : Int) : Calls Tryz.prog 22 #[.pointer (some ⟨L.cb, 0, none⟩), .int .i64 i] w fun e w' => e = .returned (.bool (s.c.pinnedAt i)) ∧ Fz W G w' L { s with c := s.c.unpin i } ∧ Only (fun k => ¬ G k) w w' := by
  obtain ⟨ps, ha, hf⟩ := h.fw
  exact (unpin_any w L.cb L.cr L.cap [] s.c ha.clk ho.ck hB i).mono fun e w' ⟨h1, h2, h3⟩ => ⟨h1, h.clock ha hf h2 h3 (Ck.unpin_len _ _) (unpin_keys _ _)⟩
/-- The key that a frame has. -/
theorem fz_key (h : Fz W G w L s) (ho : s.Ok B) (i : Int) : Calls Tryz.prog 58 #[.pointer (some ⟨L.cb, 0, none⟩), .int .i64 i] w fun e w' => e = .returned (keyR (s.c.get i)) ∧ Below w.heap.size w w' := by
  obtain ⟨ps, ha, hf⟩ := h.fw
  exact key_any w L.cb L.cr L.cap [] s.c ha.clk ho.ck i
theorem fz_new (w : World) (n : Nat) (h1 : 1 ≤ n) (h2 : n ≤ 16) : Calls Tryz.prog 6 #[.int .i64 n] w fun e w' => ∃ L, e = .returned (.tuple #[.pointer (some ⟨L.b, 0, none⟩), .int .i64 0]) ∧ Fz w (fun k => k < w.heap.size) w' L (newFs n) ∧ Below w.heap.size w w' :=
  (New_yes w n h1 h2).mono fun e w' ⟨L, h3, h4, h5, h6⟩ => ⟨L, h3, ⟨⟨_, h4, fun k hk hg => by have := h6 k hk; omega⟩, fun k hk => Nat.lt_of_lt_of_le hk h5.size, fun k hk => hk, h5⟩, h5⟩
end

end Go.Proofs.YtaemjglblfencaaGreatDoor
