/- The contracts of the document's Flush and Crash. -/
import Derived.Test.YtdmjhpebpooiaaaRread
namespace Go.Proofs.Ytdmjhpebpooiaaa
open Go.RowKit
structure RMid (w wr : World) (base b sb : Nat) (lv : Value) (d : D) (kp : Nat → Bool) (k : Nat) : Prop where
  blk : Blk wr b [.slice (some ⟨sb, 0, none⟩) d.S.length d.S.length, lv, .int .i64 d.F, .int .i64 d.T]
  sec : Blk wr sb (flat (app d.S (keptTo d.L kp k)))
  own : wr.ownsRow base 72 65 lv d.L.length (flatL d.L)
  only : Only (rfoot b sb lv) w wr
theorem RMid.start {w : World} {base b sb : Nat} {lv : Value} {d : D} (h : RefIs w base b sb lv d) (kp : Nat → Bool) : RMid w w base b sb lv d kp 0 := ⟨h.blk, h.sec, h.own, Only.refl _ _⟩
theorem RMid.skip {w wr : World} {base b sb : Nat} {lv : Value} {d : D} {kp : Nat → Bool} {k : Nat} (h : RMid w wr base b sb lv d kp k) (hk : kp k = false) : RMid w wr base b sb lv d kp (k + 1) := ⟨h.blk, by rw [keptTo_no hk]; exact h.sec, h.own, h.only⟩
theorem RMid.loose {w wr : World} {base b sb : Nat} {lv : Value} {d : D} {kp : Nat → Bool} {k : Nat} (hd : RefIs w base b sb lv d) (h : RMid w wr base b sb lv d kp k) {p : Nat × Array Value} (hk : d.L[k]? = some p) : ∃ g cap, lv = .slice (some ⟨g, 0, none⟩) d.L.length cap ∧ wr.cell? ⟨g, k * 65, none⟩ = some (.int .i64 p.1) ∧ ∀ x (hx : x < p.2.size), wr.cell? ⟨g, k * 65 + 1 + x, none⟩ = some p.2[x] :=
  RefIs.loose (d := { d with S := app d.S (keptTo d.L kp k) }) (base := base) (b := b) (sb := sb)
    { blk := by simpa using h.blk, sec := h.sec, own := h.own, hS := app_sec hd.hS fun p hp => (hd.hL p (keptTo_mem hp)).1, hL := by simpa using hd.hL, n1 := hd.n1, o1 := hd.o1, o2 := hd.o2, b1 := hd.b1, b2 := hd.b2, len := by simpa using hd.len, f := hd.f } hk
/-- One that is kept is done. -/
theorem RMid.done {w wr : World} {base b sb : Nat} {lv : Value} {d : D} {kp : Nat → Bool} {k i : Nat} {s : Array Value} (hd : RefIs w base b sb lv d) (h : RMid w wr base b sb lv d kp k) (hk : d.L[k]? = some (i, s)) (hkp : kp k = true) :
    RMid w (wr.drew.setRow sb (splice (flat (app d.S (keptTo d.L kp k))) (i * 64) s)) base b sb lv d kp (k + 1) := by
  have hm := hd.hL _ (List.mem_of_getElem? hk)
  have hS0 : ∀ t ∈ app d.S (keptTo d.L kp k), Sec t := app_sec hd.hS fun p hp => (hd.hL p (keptTo_mem hp)).1
  have hsp := flat_splice hS0 (i := i) (by rw [app_length]; exact hm.2) hm.1
  have e2 : (app d.S (keptTo d.L kp k)).set i s = app d.S (keptTo d.L kp (k + 1)) := by rw [keptTo_yes hk hkp, app_snoc]
  rw [e2] at hsp
  have hsec := h.sec.drew.row (splice (flat (app d.S (keptTo d.L kp k))) (i * 64) s)
  rw [hsp] at hsec
  exact ⟨h.blk.drew.rowOther hd.n1 _, hsec, ownsRow_of' h.own fun k hk => setRow_other _ _ _ _ fun e => hd.o2 (by rw [hk, e]), h.only.trans ((Only.refl _ _).drew.setRow (.inl (.inr (.inl rfl))) _)⟩
theorem RMid.stop {w wr : World} {base b sb : Nat} {lv : Value} {d : D} {kp : Nat → Bool} (hd : RefIs w base b sb lv d) (h : RMid w wr base b sb lv d kp d.L.length) :
    RefIs (wr.setCell ⟨b, 1, none⟩ (.slice none 0 0)) base b sb (.slice none 0 0) { d with S := app d.S (keptTo d.L kp d.L.length), L := [] } ∧ Only (rfoot b sb lv) w (wr.setCell ⟨b, 1, none⟩ (.slice none 0 0)) := by
  refine ⟨?_, h.only.setCell (.inl (.inl rfl)) _⟩
  exact { blk := by have := h.blk.set 1 (.slice none 0 0); simpa using this
          sec := h.sec.setOther hd.n1.symm _
          own := World.ownsRow_nil _ _ _ _
          hS := app_sec hd.hS fun p hp => (hd.hL p (keptTo_mem hp)).1
          hL := by simp
          n1 := hd.n1, o1 := by simp [Value.ownBlock], o2 := by simp [Value.ownBlock], b1 := hd.b1, b2 := hd.b2, len := by simpa using hd.len, f := hd.f }
theorem keptTo_past (L : List (Nat × Array Value)) (keep : List Int) (m : Nat) (hm : keep.length ≤ m) : ∀ n, keptTo L (oddAt keep) (m + n) = keptTo L (oddAt keep) m
  | 0 => rfl
  | n + 1 => by
    rw [← Nat.add_assoc, keptTo_no (by unfold oddAt; simp; omega), keptTo_past L keep m hm n]

set_option maxRecDepth 100000 in
set_option maxHeartbeats 1000000 in
theorem rflush_any (w0 : World) (base b sb : Nat) (lv : Value) (d : D) (h : RefIs w0 base b sb lv d) (hT : d.T ≤ 1000000) (hLn : d.L.length ≤ 1000000) :
    Calls Try.prog 20 #[.pointer (some ⟨b, 0, none⟩)] w0 (RDid w0 base b sb lv (.int .i64 d.flushE) d.flush) := by
  have H := Lib.hid (rfails_any w0 base b sb lv d h hT)
  unfold D.ask at H
  unfold D.flushE D.flush
  clear h
  by_cases h0 : d.F = 0
  · rw [if_pos h0, if_pos h0]
    rw [if_pos h0, show decide (d.F = 0) = true by simp [h0]] at H
    clear h0
    go_enter Try.func20, Try.ntmps20
    go_wp2_with fail
    refine H.out.mono ?_
    rintro e w' ⟨rfl, hd, ho⟩
    have HD := Lib.hid hd
    have HO := Lib.hid ho
    clear hd ho
    go_wp2_with fail
    go_ret
    exact RDid.same HD.out HO.out
  · rw [if_neg h0, if_neg h0]
    rw [if_neg h0, show decide (d.F = 0) = false by simp [h0]] at H
    clear h0
    have HSv := Lib.hid (show app d.S (keptTo d.L (fun _ => true) d.L.length) = app d.S d.L by rw [keptTo_all _ _ (Nat.le_refl _), List.take_length])
    go_enter Try.func20, Try.ntmps20
    go_wp2_with fail
    refine H.out.mono ?_
    rintro e w ⟨rfl, hd, ho⟩
    have HO := Lib.hid ho
    generalize hdd : ({ S := d.S, L := d.L, F := d.nextF, T := d.T + 1 } : D) = d2 at hd
    have HR := Lib.hid hd
    have HE : Hid (d2.S = d.S ∧ d2.L = d.L ∧ d2.F = d.nextF ∧ d2.T = d.T + 1) := Lib.hid (by subst hdd; exact ⟨rfl, rfl, rfl, rfl⟩)
    have HFinD : Hid (({ d2 with S := app d2.S (keptTo d2.L (fun _ => true) d2.L.length), L := [] } : D) = { d with F := d.nextF, T := d.T + 1, S := app d.S d.L, L := [] }) := Lib.hid (by subst hdd; simp only; rw [HSv.out])
    have hLn2 : d2.L.length ≤ 1000000 := by subst hdd; exact hLn
    clear hd ho hdd H hT hLn HSv HE
    go_wp2_with fail
    go_loopg [3] d2.L.length (fun g z wr => ∃ (k : Nat), d2.L.length - k ≤ g ∧ k ≤ d2.L.length ∧ z = .int .i64 k ∧ RMid w wr base b sb lv d2 (fun _ => true) k)
    case atStart => exact ⟨0, by omega, by omega, rfl, RMid.start HR.out _⟩
    case round =>
      obtain ⟨k, hg, hk, rfl, hmid⟩ := hrel
      by_cases hlt : k < d2.L.length
      · skip
        have hk0 : (0 : Int) ≤ (k : Int) := by omega
        have hk1 : (k : Int) < (d2.L.length : Int) := by omega
        obtain ⟨p, hp⟩ : ∃ p, d2.L[k]? = some p := ⟨_, List.getElem?_eq_getElem hlt⟩
        obtain ⟨i, s⟩ := p
        obtain ⟨g, cap, elv, cI, cS⟩ := hmid.loose HR.out hp
        have hpm := HR.out.hL _ (List.mem_of_getElem? hp)
        have HSs : Hid (Sec s) := Lib.hid hpm.1
        have hi : i < d2.S.length := hpm.2
        have hi0 : (0 : Int) ≤ (i : Int) := by omega
        have hi1 : (i : Int) < (d2.S.length : Int) := by omega
        have HP := Lib.hid hp
        have HcS := Lib.hid cS
        have HM := Lib.hid hmid
        have c0 : wr.cell? ⟨b, 0, none⟩ = some (.slice (some ⟨sb, 0, none⟩) d2.S.length d2.S.length) := hmid.blk.cell rfl
        have c1 : wr.cell? ⟨b, 1, none⟩ = some lv := hmid.blk.cell rfl
        rw [elv] at c1
        clear hp cS elv hpm hmid
        go_wp2_with fail
        refine wp_region_still_tail 21 (by kernel_rfl) (by kernel_rfl) ?_
        simp only [List.take_succ_cons, List.take_zero, List.drop_succ_cons, List.drop_zero]
        change wpStill _ _ wr.drew (fun a' => wpList _ _ _ _ a' wr.drew) _ _
        still_step
        still_step
        still_step
        still_step
        still_step
        still_step
        still_step
        still_step
        still_step
        still_step
        still_step
        still_step
        still_step
        still_step
        still_step
        still_step
        still_step
        still_step
        still_step
        refine wpStill_run (.agg s) rfl (exec_load_at _ _ _ 37 _ rfl g (k * 65 + 1) rfl s _ Try.underlying37 rfl (by rw [HSs.out.size]; exact info37) HcS.out) ?_
        still_step
        refine wpStill_nil ?_
        have hS0 : ∀ t ∈ app d2.S (keptTo d2.L (fun _ => true) k), Sec t := app_sec HR.out.hS fun p hp => (HR.out.hL p (keptTo_mem hp)).1
        refine wpList_store_at rfl 37 _ _ rfl sb (i * 64) s rfl rfl _ HM.out.sec.drew (by rw [HSs.out.size]; exact info37) (by rw [flat_length hS0, HSs.out.size, app_length]; omega) HSs.out.one ?_
        have HN := Lib.hid (HM.out.done HR.out HP.out rfl)
        clear hS0
        generalize wr.drew.setRow sb (splice (flat (app d2.S (keptTo d2.L (fun _ => true) k))) (i * 64) s) = w3 at *
        clear c0 c1 cI
        go_wp2_with fail
        go_roundg (d2.L.length - (k + 1))
        case measure => omega
        case rel => exact ⟨k + 1, by omega, by omega, by go_num, HN.out⟩
      · have hkl : k = d2.L.length := by omega
        subst hkl
        obtain ⟨ac, cp, elv⟩ := HR.out.lvShape
        have c1 : wr.cell? ⟨b, 1, none⟩ = some lv := hmid.blk.cell rfl
        have f1 := hmid.blk.frozen 1
        rw [elv] at c1
        have HN := Lib.hid (hmid.stop HR.out)
        rw [HFinD.out] at HN
        clear hmid hlt elv
        go_wp2_with fail
        go_ret
        exact ⟨.slice none 0 0, rfl, HN.out.1, HO.out.trans HN.out.2, by simp [Value.ownBlock]⟩

set_option maxRecDepth 100000 in
set_option maxHeartbeats 1000000 in
theorem rcrash_any (w : World) (base b sb : Nat) (lv : Value) (d : D) (h : RefIs w base b sb lv d) (hLn : d.L.length ≤ 1000000) (kv : Value) (l : List Int) (hv : BytesAt w kv l) (hkeep : ∀ wr, Only (rfoot b sb lv) w wr → BytesAt wr kv l) :
    Calls Try.prog 22 #[.pointer (some ⟨b, 0, none⟩), kv] w (RDid w base b sb lv (.tuple #[]) (d.crash l)) := by
  have HR := Lib.hid h
  have HKv : Hid (∀ wr, Only (rfoot b sb lv) w wr → BytesAt wr kv l) := Lib.hid hkeep
  obtain ⟨ka, kc, rfl, hml, _, _⟩ := hv
  unfold maxLen at hml
  obtain ⟨ac, cp, elv⟩ := h.lvShape
  have HLv := Lib.hid elv
  clear h hkeep elv
  go_enter Try.func22, Try.ntmps22
  go_wp2_with fail
  go_loopg [4] d.L.length (fun g z wr => ∃ (k : Nat), d.L.length - k ≤ g ∧ k ≤ d.L.length ∧ z = .int .i64 k ∧ RMid w wr base b sb lv d (oddAt l) k)
  case atStart => exact ⟨0, by omega, by omega, rfl, RMid.start HR.out _⟩
  case round =>
    obtain ⟨k, hg, hk, rfl, hmid⟩ := hrel
    have hkb := HKv.out wr hmid.only
    by_cases hlt : k < d.L.length
    · by_cases hko : k < l.length
      · obtain ⟨ka2, kc2, ekv, _, hkn, hkc⟩ := hkb
        obtain ⟨kbb, koo, eka, hkx⟩ := hkc k hko
        have ek : ka = some ⟨kbb, koo, none⟩ := by simp at ekv; rw [ekv.1]; exact eka
        subst ek
        obtain ⟨hx0, hx1⟩ := hkn l[k] (List.getElem_mem hko)
        have hko1 : (k : Int) < (l.length : Int) := by omega
        have HOd : Hid (oddAt l k = decide (l[k] % 2 = 1)) := Lib.hid (by unfold oddAt; simp [List.getD, hko])
        clear hkc hkn ekv eka
        generalize l[k] = xk at *
        by_cases hodd : xk % 2 = 1
        · have HOdd : Hid (oddAt l k = true) := Lib.hid (by rw [HOd.out]; simp [hodd])
          have e2 : (xk % 2 == 1) = true := beq_iff_eq.2 hodd
          clear hodd
          have hk0 : (0 : Int) ≤ (k : Int) := by omega
          have hk1 : (k : Int) < (d.L.length : Int) := by omega
          obtain ⟨p, hp⟩ : ∃ p, d.L[k]? = some p := ⟨_, List.getElem?_eq_getElem hlt⟩
          obtain ⟨i, s⟩ := p
          obtain ⟨g, cap, elv, cI, cS⟩ := hmid.loose HR.out hp
          have hpm := HR.out.hL _ (List.mem_of_getElem? hp)
          have HSs : Hid (Sec s) := Lib.hid hpm.1
          have hi : i < d.S.length := hpm.2
          have hi0 : (0 : Int) ≤ (i : Int) := by omega
          have hi1 : (i : Int) < (d.S.length : Int) := by omega
          have HP := Lib.hid hp
          have HcS := Lib.hid cS
          have HM := Lib.hid hmid
          have c0 : wr.cell? ⟨b, 0, none⟩ = some (.slice (some ⟨sb, 0, none⟩) d.S.length d.S.length) := hmid.blk.cell rfl
          have c1 : wr.cell? ⟨b, 1, none⟩ = some lv := hmid.blk.cell rfl
          rw [elv] at c1
          clear hp cS elv hpm hmid

          go_wp2_with fail
          refine wp_region_still_tail 21 (by kernel_rfl) (by kernel_rfl) ?_
          simp only [List.take_succ_cons, List.take_zero, List.drop_succ_cons, List.drop_zero]
          change wpStill _ _ wr.drew (fun a' => wpList _ _ _ _ a' wr.drew) _ _
          still_step
          still_step
          still_step
          still_step
          still_step
          still_step
          still_step
          still_step
          still_step
          still_step
          still_step
          still_step
          still_step
          still_step
          still_step
          still_step
          still_step
          still_step
          still_step
          refine wpStill_run (.agg s) rfl (exec_load_at _ _ _ 37 _ rfl g (k * 65 + 1) rfl s _ Try.underlying37 rfl (by rw [HSs.out.size]; exact info37) HcS.out) ?_
          still_step
          refine wpStill_nil ?_
          have hS0 : ∀ t ∈ app d.S (keptTo d.L (oddAt l) k), Sec t := app_sec HR.out.hS fun p hp => (HR.out.hL p (keptTo_mem hp)).1
          refine wpList_store_at rfl 37 _ _ rfl sb (i * 64) s rfl rfl _ HM.out.sec.drew (by rw [HSs.out.size]; exact info37) (by rw [flat_length hS0, HSs.out.size, app_length]; omega) HSs.out.one ?_
          have HN := Lib.hid (HM.out.done HR.out HP.out HOdd.out)
          clear hS0
          generalize wr.drew.setRow sb (splice (flat (app d.S (keptTo d.L (oddAt l) k))) (i * 64) s) = w3 at *
          clear c0 c1 cI
          go_wp2_with fail

          go_roundg (d.L.length - (k + 1))
          case measure => omega
          case rel => exact ⟨k + 1, by omega, by omega, by go_num, HN.out⟩
        · have HOdd : Hid (oddAt l k = false) := Lib.hid (by rw [HOd.out]; simp [hodd])
          have e2 : (xk % 2 == 1) = false := beq_eq_false_iff_ne.2 hodd
          have c1 : wr.cell? ⟨b, 1, none⟩ = some lv := hmid.blk.cell rfl
          rw [HLv.out] at c1
          have hk0 : (0 : Int) ≤ (k : Int) := by omega
          have hk1 : (k : Int) < (d.L.length : Int) := by omega
          have HN := Lib.hid (hmid.skip HOdd.out)
          clear hodd hmid
          go_wp2_with fail
          go_roundg (d.L.length - (k + 1))
          case measure => omega
          case rel => exact ⟨k + 1, by omega, by omega, by go_num, HN.out⟩
      · have hkp := keptTo_past d.L l k (by omega) (d.L.length - k)
        rw [show k + (d.L.length - k) = d.L.length by omega] at hkp
        have HMd : Hid (RMid w wr base b sb lv d (oddAt l) d.L.length) := Lib.hid ⟨hmid.blk, by rw [hkp]; exact hmid.sec, hmid.own, hmid.only⟩
        have hk1 : (k : Int) < (d.L.length : Int) := by omega
        have hko1 : ¬ (k : Int) < (l.length : Int) := by omega
        clear hkp hkb
        have c1 : wr.cell? ⟨b, 1, none⟩ = some lv := hmid.blk.cell rfl
        have c2 : wr.cell? ⟨b, 2, none⟩ = some (.int .i64 d.F) := hmid.blk.cell rfl
        have f1 := hmid.blk.frozen 1
        have f2 := hmid.blk.frozen 2
        rw [HLv.out] at c1
        have hstop := HMd.out.stop HR.out
        have HN := Lib.hid (hstop.1.setF (f := -1) ⟨by decide, by decide⟩)
        have HO := Lib.hid (hstop.2.setCell (p := ⟨b, 2, none⟩) (.inl (.inl rfl)) (.int .i64 (-1)))
        clear hmid hlt hstop
        go_wp2_with fail
        go_end0
        exact ⟨.slice none 0 0, rfl, HN.out, HO.out, by simp [Value.ownBlock]⟩
    · have hkl : k = d.L.length := by omega
      subst hkl
      have HMd := Lib.hid hmid
      clear hkb
      have c1 : wr.cell? ⟨b, 1, none⟩ = some lv := hmid.blk.cell rfl
      have c2 : wr.cell? ⟨b, 2, none⟩ = some (.int .i64 d.F) := hmid.blk.cell rfl
      have f1 := hmid.blk.frozen 1
      have f2 := hmid.blk.frozen 2
      rw [HLv.out] at c1
      have hstop := HMd.out.stop HR.out
      have HN := Lib.hid (hstop.1.setF (f := -1) ⟨by decide, by decide⟩)
      have HO := Lib.hid (hstop.2.setCell (p := ⟨b, 2, none⟩) (.inl (.inl rfl)) (.int .i64 (-1)))
      clear hmid hlt hstop
      go_wp2_with fail
      go_end0
      exact ⟨.slice none 0 0, rfl, HN.out, HO.out, by simp [Value.ownBlock]⟩
end Go.Proofs.Ytdmjhpebpooiaaa
