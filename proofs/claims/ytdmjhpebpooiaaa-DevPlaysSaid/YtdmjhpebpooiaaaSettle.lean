/- The contracts of settle, Flush and Crash. -/
import Derived.Test.YtdmjhpebpooiaaaWrite
import Derived.Test.YtdmjhpebpooiaaaRead
namespace Go.Proofs.Ytdmjhpebpooiaaa
open Go.RowKit

/-- A device some of whose loose writes are settled: k of them, of those the kept ones are done. -/
structure Mid (w wr : World) (base : Nat) (A : Addrs) (d : D) (kp : Nat → Bool) (k : Nat) (N : List Nat) : Prop where
  blk : Blk wr A.b [.slice (some ⟨A.sb, 0, none⟩) d.S.length d.S.length, A.lv, .slice (some ⟨A.nb, 0, none⟩) d.S.length d.S.length, .int .i64 d.F, .int .i64 d.T]
  sec : Blk wr A.sb (flat (app d.S (keptTo d.L kp k)))
  last : Blk wr A.nb (N.map fun (n : Nat) => Value.int .i64 (n : Int))
  own : wr.ownsRow base 69 65 A.lv d.L.length (flatL d.L)
  hN : N.length = d.S.length
  ok : ∀ i n, N[i]? = some n → n = 0 ∨ ∃ p ∈ d.L.drop k, p.1 = i
  only : Only A.foot w wr

theorem LastOk.mid {L : List (Nat × Array Value)} {N : List Nat} (h : LastOk L N) : ∀ i n, N[i]? = some n → n = 0 ∨ ∃ p ∈ L.drop 0, p.1 = i := fun i n hn => by
  rcases h i n hn with ⟨h0, _⟩ | ⟨_, s, hs, _⟩
  · exact .inl h0
  · exact .inr ⟨_, by simpa using List.mem_of_getElem? hs, rfl⟩

theorem Mid.start {w : World} {base : Nat} {A : Addrs} {d : D} {N : List Nat} (h : DevIs w base A d N) (kp : Nat → Bool) : Mid w w base A d kp 0 N :=
  ⟨h.blk, h.sec, h.last, h.own, h.hN, h.ok.mid, Only.refl _ _⟩

theorem ownsRow_of {w w' : World} {base : Nat} {v : Value} {n : Nat} {xs : List Value} (h : w.ownsRow base 69 65 v n xs) (hb : ∀ k, v.ownBlock = some k → w'.heap[k]? = w.heap[k]?) : w'.ownsRow base 69 65 v n xs := by
  refine ⟨h.1, ?_⟩
  rcases h.2 with hn | ⟨g, cap, cur, e, hb', hg, r⟩
  · exact .inl hn
  · exact .inr ⟨g, cap, cur, e, hb', (hb g (by rw [e]; rfl)).trans hg, r⟩

/-- Another world that has the same at the device's blocks. -/
theorem Mid.go {w wr w2 : World} {base : Nat} {A : Addrs} {d : D} {kp : Nat → Bool} {k : Nat} {N : List Nat} (h : Mid w wr base A d kp k N) (hf : ∀ k, A.foot k → k < wr.heap.size) (ho : Only (fun _ => False) wr w2) : Mid w w2 base A d kp k N :=
  have hb : ∀ k, A.foot k → w2.heap[k]? = wr.heap[k]? := fun k hk => ho.block k (hf k hk) (fun h => h)
  ⟨h.blk.of_block (hb _ (.inl rfl)), h.sec.of_block (hb _ (.inr (.inl rfl))), h.last.of_block (hb _ (.inr (.inr (.inl rfl)))), ownsRow_of h.own (fun k hk => hb k (.inr (.inr (.inr hk)))), h.hN, h.ok, h.only.trans (ho.more fun _ _ h => h.elim)⟩

theorem drop_step {L : List (Nat × Array Value)} {k : Nat} {i : Nat} {s : Array Value} (hk : L[k]? = some (i, s)) {N : List Nat} (h : ∀ j n, N[j]? = some n → n = 0 ∨ ∃ p ∈ L.drop k, p.1 = j) : ∀ j n, (N.set i 0)[j]? = some n → n = 0 ∨ ∃ p ∈ L.drop (k + 1), p.1 = j := fun j n hn => by
  by_cases hij : i = j
  · subst hij
    left
    rw [List.getElem?_set_self'] at hn
    cases hN : N[i]? with
    | none => simp [hN] at hn
    | some x => simp [hN] at hn; exact hn.symm
  · rw [List.getElem?_set_ne hij] at hn
    rcases h j n hn with h0 | ⟨p, hp, hpj⟩
    · exact .inl h0
    · obtain ⟨hlt, e⟩ := List.getElem?_eq_some_iff.1 hk
      rw [List.drop_eq_getElem_cons hlt, e] at hp
      rcases List.mem_cons.1 hp with rfl | hp
      · exact absurd hpj hij
      · exact .inr ⟨p, hp, hpj⟩

/-- One more is settled. -/
theorem Mid.step {w wr : World} {base : Nat} {A : Addrs} {d : D} {kp : Nat → Bool} {k : Nat} {N N' : List Nat} (hd : DevIs w base A d N') (h : Mid w wr base A d kp k N) {i : Nat} {s : Array Value} (hk : d.L[k]? = some (i, s)) {w3 : World} (ho : Only A.foot w w3)
    (hblk : Blk w3 A.b [.slice (some ⟨A.sb, 0, none⟩) d.S.length d.S.length, A.lv, .slice (some ⟨A.nb, 0, none⟩) d.S.length d.S.length, .int .i64 d.F, .int .i64 d.T])
    (hsec : Blk w3 A.sb (flat (app d.S (keptTo d.L kp (k + 1))))) (hlast : Blk w3 A.nb (N.map fun (n : Nat) => Value.int .i64 (n : Int)))
    (hown : w3.ownsRow base 69 65 A.lv d.L.length (flatL d.L)) : Mid w (w3.setCell ⟨A.nb, i, none⟩ (.int .i64 0)) base A d kp (k + 1) (N.set i 0) where
  blk := hblk.setOther hd.n2 _
  sec := hsec.setOther hd.n3 _
  last := by
    have := hlast.set i (.int .i64 0)
    rw [show (Value.int .i64 0) = (fun (n : Nat) => Value.int .i64 (n : Int)) 0 from rfl, ← List.map_set] at this
    exact this
  own := ownsRow_of hown fun k hk => heap_setCell_other w3 _ _ _ fun e => hd.o3 (by rw [hk, e])
  hN := by simpa using h.hN
  ok := drop_step hk h.ok
  only := ho.setCell (.inl (.inr (.inr (.inl rfl)))) _

/-- All are. -/
theorem Mid.stop {w wr : World} {base : Nat} {A : Addrs} {d : D} {kp : Nat → Bool} {N N' : List Nat} (hd : DevIs w base A d N') (h : Mid w wr base A d kp d.L.length N) :
    DevAt (wr.setCell ⟨A.b, 1, none⟩ (.slice none 0 0)) base { A with lv := .slice none 0 0 } { d with S := app d.S (keptTo d.L kp d.L.length), L := [] } ∧ Only A.foot w (wr.setCell ⟨A.b, 1, none⟩ (.slice none 0 0)) := by
  refine ⟨⟨N, ?_⟩, h.only.setCell (.inl (.inl rfl)) _⟩
  have hsec : ∀ s ∈ app d.S (keptTo d.L kp d.L.length), Sec s := app_sec hd.hS fun p hp => (hd.hL p (keptTo_mem hp)).1
  exact {
    blk := by have := h.blk.set 1 (.slice none 0 0); simpa using this
    sec := h.sec.setOther hd.n1.symm _
    last := h.last.setOther hd.n2.symm _
    own := World.ownsRow_nil _ _ _ _
    hS := hsec
    hL := by simp
    hN := by simpa using h.hN
    ok := fun i n hn => by
      rcases h.ok i n hn with h0 | ⟨p, hp, _⟩
      · exact .inl ⟨h0, by simp⟩
      · simp at hp
    n1 := hd.n1, n2 := hd.n2, n3 := hd.n3, o1 := by simp [Value.ownBlock], o2 := by simp [Value.ownBlock], o3 := by simp [Value.ownBlock]
    b1 := hd.b1, b2 := hd.b2, b3 := hd.b3, len := by simpa using hd.len, f := hd.f }

theorem Mid.drew {w wr : World} {base : Nat} {A : Addrs} {d : D} {kp : Nat → Bool} {k : Nat} {N : List Nat} (h : Mid w wr base A d kp k N) : Mid w wr.drew base A d kp k N := ⟨h.blk, h.sec, h.last, h.own, h.hN, h.ok, h.only.drew⟩
def zeros65 : List Value := .int .i64 0 :: zeros64

set_option maxRecDepth 100000 in
set_option maxHeartbeats 1000000 in
theorem settle_any (w : World) (base : Nat) (A : Addrs) (d : D) (h : DevAt w base A d) (hLn : d.L.length ≤ 1000000) (f : Nat) (cap : Array Value) (kp : Nat → Bool) (hcf : ∀ (args : Array Value) (w : World), (callFunc f args).run Try.prog w = .ok (.enter f args) w)
    (hcall : ∀ (k : Nat) (w' : World), k < d.L.length → Only A.foot w w' → Calls Try.prog f (#[.int .i64 (k : Int)] ++ cap) w' fun e w'' => e = .returned (.bool (kp k)) ∧ w' = w'') :
    Calls Try.prog 31 #[.pointer (some ⟨A.b, 0, none⟩), .func (.func f) #[] cap] w fun e w' => e = .returned (.tuple #[]) ∧ DevAt w' base { A with lv := .slice none 0 0 } { d with S := app d.S (keptTo d.L kp d.L.length), L := [] } ∧ Only A.foot w w' := by
  obtain ⟨N, hd⟩ := h
  have c1 := hd.c1
  obtain ⟨a, cp, e⟩ := hd.lvShape
  rw [e] at c1
  have HD := Lib.hid hd
  have HE := Lib.hid e
  have HC := Lib.hid hcall
  clear hd e hcall
  go_enter Try.func31, Try.ntmps31
  go_wp2_with fail
  go_loopg [11] d.L.length (fun g i wr => ∃ (k : Nat) (M : List Nat), d.L.length - k ≤ g ∧ k ≤ d.L.length ∧ i = .int .i64 k ∧ Mid w wr base A d kp k M)
  case atStart => exact ⟨0, N, by omega, by omega, rfl, Mid.start HD.out kp⟩
  case round =>
    obtain ⟨k, M, hg, hk, rfl, hmid⟩ := hrel
    by_cases hlt : k < d.L.length
    · obtain ⟨gg, hgg⟩ : ∃ g, a = some ⟨g, 0, none⟩ := by
        obtain ⟨g, c, e2, _⟩ := HD.out.own.form (by omega)
        have := HE.out.symm.trans e2
        simp at this
        exact ⟨g, this.1⟩
      subst hgg
      obtain ⟨p, hp⟩ : ∃ p, d.L[k]? = some p := ⟨_, List.getElem?_eq_getElem hlt⟩
      obtain ⟨i, s⟩ := p
      have hpm := HD.out.hL _ (List.mem_of_getElem? hp)
      have HS := Lib.hid (show Sec s from hpm.1)
      have hi : i < d.S.length := hpm.2
      have hload : ∀ x (hx : x < (#[Value.int .i64 (i : Int)] ++ s).size), wr.cell? ⟨gg, k * 65 + x, none⟩ = some (#[Value.int .i64 (i : Int)] ++ s)[x] := fun x hx => by
        have hown := hmid.own
        rw [HE.out] at hown
        have h65 : x < 65 := by have := HS.out.size; simp at hx; omega
        rw [hown.cellAt (k * 65 + x) (by omega), flatL_at (fun p hp => (HD.out.hL p hp).1) hp h65]
        have : (Value.int .i64 (i : Int) :: s.toList)[x]? = (#[Value.int .i64 (i : Int)] ++ s)[x]? := by
          obtain ⟨l⟩ := s
          simp
        rw [this]
        exact Array.getElem?_eq_getElem hx
      have HL := Lib.hid hload
      have HZ := Lib.hid (show (#[Value.int .i64 (i : Int)] ++ s).size = 65 by have := HS.out.size; simp; omega)
      have HP := Lib.hid hp
      have HMid := Lib.hid hmid
      have hk0 : (0 : Int) ≤ (k : Int) := by omega
      have hk1 : (k : Int) < (d.L.length : Int) := by omega
      have hone : ∀ v ∈ (#[Value.int .i64 (i : Int)] ++ s), v.oneCell' = true := fun v hv => by
        rcases Array.mem_append.1 hv with hv | hv
        · simp at hv; rw [hv]; rfl
        · exact HS.out.one v hv
      have HOne := Lib.hid hone
      clear hpm hload hp hmid hone
      have HF := Lib.hid fun k hk => Nat.lt_of_lt_of_le (HD.out.foot_lt k hk).2 HMid.out.only.size
      go_wp2_with (first | (refine wpList_load_at rfl 69 _ rfl gg (k * 65) rfl (#[.int .i64 (i : Int)] ++ s) _ Try.underlying69 rfl (by rw [HZ.out]; exact info69) HL.out ?_) | (refine wpList_run _ _ rfl (exec_alloc _ _ _ 69 rfl _ info69z) ?_) | (refine wpList_store_at rfl 69 _ _ rfl wr.heap.size 0 (#[.int .i64 (i : Int)] ++ s) rfl rfl zeros65 (Blk.newAt _ _ _ rfl rfl) (by rw [HZ.out]; exact info69) (by rw [HZ.out]; decide) HOne.out ?_))
      rw [splice_all _ _ (by rw [HZ.out]; rfl)]
      have hx : Blk ((wr.alloc (.cells (#[.int .i64 0] ++ fillA 0) 69)).setRow wr.heap.size (#[.int .i64 (i : Int)] ++ s)) wr.heap.size (Value.int .i64 (i : Int) :: s.toList) := by
        have := (Blk.newAt (w := wr) (cs := #[.int .i64 0] ++ fillA 0) 69 wr.heap.size zeros65 rfl rfl).row (#[.int .i64 (i : Int)] ++ s)
        simpa using this
      have ho2 : Only (fun _ => False) wr ((wr.alloc (.cells (#[.int .i64 0] ++ fillA 0) 69)).setRow wr.heap.size (#[.int .i64 (i : Int)] ++ s)) := ((Only.refl _ _).alloc _).setRow (.inr (Nat.le_refl _)) _
      generalize (wr.alloc (.cells (#[.int .i64 0] ++ fillA 0) 69)).setRow wr.heap.size (#[.int .i64 (i : Int)] ++ s) = w2 at *
      have hmid2 := HMid.out.go HF.out ho2
      have HCall := Lib.hid (HC.out k w2 hlt hmid2.only)
      have hne : wr.heap.size ≠ A.b ∧ wr.heap.size ≠ A.sb ∧ wr.heap.size ≠ A.nb ∧ A.lv.ownBlock ≠ some wr.heap.size := by
        have h1 := HF.out A.b (.inl rfl)
        have h2 := HF.out A.sb (.inr (.inl rfl))
        have h3 := HF.out A.nb (.inr (.inr (.inl rfl)))
        exact ⟨by omega, by omega, by omega, fun e => by have := HF.out _ (.inr (.inr (.inr e))); omega⟩
      have HNe := Lib.hid hne
      have HX := Lib.hid hx
      have HMid2 := Lib.hid hmid2
      clear hx ho2 hmid2 hne
      have hi0 : (0 : Int) ≤ (i : Int) := by omega
      have hi1 : (i : Int) < (d.S.length : Int) := by omega
      obtain ⟨m, hm⟩ : ∃ m, M[i]? = some m := ⟨_, List.getElem?_eq_getElem (by have := HMid2.out.hN; omega)⟩
      have c0 : w2.cell? ⟨A.b, 0, none⟩ = some (.slice (some ⟨A.sb, 0, none⟩) d.S.length d.S.length) := HMid2.out.blk.cell rfl
      have c2 : w2.cell? ⟨A.b, 2, none⟩ = some (.slice (some ⟨A.nb, 0, none⟩) d.S.length d.S.length) := HMid2.out.blk.cell rfl
      have c3 : w2.cell? ⟨A.nb, i, none⟩ = some (.int .i64 (m : Int)) := HMid2.out.last.cell (by rw [List.getElem?_map, hm]; rfl)
      have f3 := HMid2.out.last.frozen i
      have c4 : w2.cell? ⟨wr.heap.size, 0, none⟩ = some (.int .i64 (i : Int)) := HX.out.cell rfl
      have HMm := Lib.hid hm
      clear hm c1
      cases hkp : kp k
      · rw [hkp] at HCall
        have hfin := Mid.step HD.out HMid2.out HP.out HMid2.out.only HMid2.out.blk (by rw [keptTo_no hkp]; exact HMid2.out.sec) HMid2.out.last HMid2.out.own
        have HFin := Lib.hid hfin.drew
        clear hkp hfin c0
        go_wp2_with fail
        refine HCall.out.mono ?_
        rintro e w3 ⟨rfl, rfl⟩
        go_wp2_with fail
        go_region
        go_wp2_with fail
        go_roundg (d.L.length - (k + 1))
        case measure => omega
        case rel => exact ⟨k + 1, _, by omega, by omega, by go_num, HFin.out⟩
      · rw [hkp] at HCall
        have HK := Lib.hid hkp
        clear hkp c2 c3 f3
        go_wp2_with fail
        refine HCall.out.mono ?_
        rintro e w3 ⟨rfl, rfl⟩
        go_wp2_with fail
        refine wp_region_still_tail 9 (by kernel_rfl) (by kernel_rfl) ?_
        simp only [List.take_succ_cons, List.take_zero, List.drop_succ_cons, List.drop_zero]
        change wpStill _ _ w2.drew (fun a' => wpList _ _ _ _ a' w2.drew) _ _
        still_step
        still_step
        still_step
        still_step
        still_step
        still_step
        still_step
        have hc1 : ∀ j (hj : j < s.size), w2.drew.cell? ⟨wr.heap.size, 1 + j, none⟩ = some s[j] := fun j hj => HX.out.drew.cell (by rw [Nat.add_comm]; simp [hj])
        refine wpStill_run (.agg s) rfl (exec_load_at _ _ _ 37 _ rfl wr.heap.size 1 rfl s _ Try.underlying37 rfl (by rw [HS.out.size]; exact info37) hc1) ?_
        clear hc1
        still_step
        refine wpStill_nil ?_
        have hS0 : ∀ t ∈ app d.S (keptTo d.L kp k), Sec t := app_sec HD.out.hS fun p hp => (HD.out.hL p (keptTo_mem hp)).1
        have hsp := flat_splice hS0 (i := i) (by rw [app_length]; exact hi) HS.out
        have e2 : (app d.S (keptTo d.L kp k)).set i s = app d.S (keptTo d.L kp (k + 1)) := by rw [keptTo_yes HP.out HK.out, app_snoc]
        rw [e2] at hsp
        refine wpList_store_at rfl 37 _ _ rfl A.sb (i * 64) s rfl rfl _ HMid2.out.sec.drew (by rw [HS.out.size]; exact info37) (by rw [flat_length hS0, HS.out.size, app_length]; omega) HS.out.one ?_
        have hsec := HMid2.out.sec.drew.row (splice (flat (app d.S (keptTo d.L kp k))) (i * 64) s)
        rw [hsp] at hsec
        have hO : Only A.foot w2 (w2.drew.setRow A.sb (splice (flat (app d.S (keptTo d.L kp k))) (i * 64) s)) := (Only.refl _ _).drew.setRow (.inl (.inr (.inl rfl))) _
        have hblk := HMid2.out.blk.drew.rowOther HD.out.n1 (splice (flat (app d.S (keptTo d.L kp k))) (i * 64) s)
        have hlast := HMid2.out.last.drew.rowOther HD.out.n3.symm (splice (flat (app d.S (keptTo d.L kp k))) (i * 64) s)
        have hx2 := HX.out.drew.rowOther HNe.out.2.1 (splice (flat (app d.S (keptTo d.L kp k))) (i * 64) s)
        have hown : (w2.drew.setRow A.sb (splice (flat (app d.S (keptTo d.L kp k))) (i * 64) s)).ownsRow base 69 65 A.lv d.L.length (flatL d.L) := ownsRow_of HMid2.out.own fun k hk => setRow_other _ _ _ _ fun e => HD.out.o2 (by rw [hk, e])
        generalize w2.drew.setRow A.sb (splice (flat (app d.S (keptTo d.L kp k))) (i * 64) s) = w3 at *
        have c2 : w3.cell? ⟨A.b, 2, none⟩ = some (.slice (some ⟨A.nb, 0, none⟩) d.S.length d.S.length) := hblk.cell rfl
        have c3 : w3.cell? ⟨A.nb, i, none⟩ = some (.int .i64 (m : Int)) := hlast.cell (by rw [List.getElem?_map, HMm.out]; rfl)
        have f3 := hlast.frozen i
        have c4 : w3.cell? ⟨wr.heap.size, 0, none⟩ = some (.int .i64 (i : Int)) := hx2.cell rfl
        have hfin := Mid.step HD.out HMid2.out HP.out (HMid2.out.only.trans hO) hblk hsec hlast hown
        have HFin := Lib.hid hfin.drew
        clear hfin hblk hsec hlast hown hO hx2 hsp hS0 e2 c0
        go_wp2_with fail
        go_region
        all_goals
          go_wp2_with fail
          go_roundg (d.L.length - (k + 1))
          case measure => omega
          case rel => exact ⟨k + 1, _, by omega, by omega, by go_num, HFin.out⟩
    · have hkl : k = d.L.length := by omega
      subst hkl
      have c1 : wr.cell? ⟨A.b, 1, none⟩ = some A.lv := hmid.blk.cell rfl
      have f1 := hmid.blk.frozen 1
      have HFin := Lib.hid (Mid.stop HD.out hmid)
      clear hmid hlt
      go_wp2_with fail
      go_end0
      exact ⟨rfl, HFin.out⟩

theorem enter32 (args : Array Value) (w : World) : (callFunc 32 args).run Try.prog w = .ok (.enter 32 args) w := by go_simp
theorem enter33 (args : Array Value) (w : World) : (callFunc 33 args).run Try.prog w = .ok (.enter 33 args) w := by go_simp

theorem flushed (k : Int) (w : World) : Calls Try.prog 32 #[.int .i64 k] w fun e w' => e = .returned (.bool true) ∧ w = w' := by
  go_enter Try.func32, Try.ntmps32
  go_wp2_with fail
  go_ret
  exact ⟨rfl, rfl⟩

theorem flush_no (w : World) (base : Nat) (A : Addrs) (d : D) (h : DevAt w base A d) (hT : d.T ≤ 1000000) (h0 : d.F = 0) :
    Calls Try.prog 19 #[.pointer (some ⟨A.b, 0, none⟩)] w (Did w base A (.int .i64 12) { d with F := -1 }) := by
  have H := Lib.hid (ask_flush w base A d h hT 0)
  unfold D.ask D.askE at H
  rw [if_pos h0, if_pos h0] at H
  clear h h0
  go_enter Try.func19, Try.ntmps19
  go_wp2_with fail
  refine H.out.mono ?_
  rintro e w' ⟨rfl, hd, ho⟩
  have HD := Lib.hid hd
  have HO := Lib.hid ho
  clear hd ho
  go_wp2_with fail
  go_ret
  exact Did.same HD.out HO.out
theorem flush_yes (w : World) (base : Nat) (A : Addrs) (d : D) (h : DevAt w base A d) (hT : d.T ≤ 1000000) (hLn : d.L.length ≤ 1000000) (h0 : d.F ≠ 0) :
    Calls Try.prog 19 #[.pointer (some ⟨A.b, 0, none⟩)] w (Did w base A (.int .i64 0) { d with F := d.nextF, T := d.T + 1, S := app d.S d.L, L := [] }) := by
  have H := Lib.hid (ask_flush w base A d h hT 0)
  unfold D.ask D.askE at H
  rw [if_neg h0, if_neg h0] at H
  clear h h0
  go_enter Try.func19, Try.ntmps19
  go_wp2_with fail
  refine H.out.mono ?_
  rintro e w' ⟨rfl, hd, ho⟩
  have HO := Lib.hid ho
  have HS := Lib.hid (settle_any w' base A _ hd hLn 32 #[] (fun _ => true) enter32 (fun k w2 _ _ => flushed k w2))
  simp only [keptTo_all _ _ (Nat.le_refl _), List.take_length] at HS
  clear hd ho
  go_wp2_with fail
  refine HS.out.mono ?_
  rintro e w2 ⟨rfl, hd, ho⟩
  have HD := Lib.hid hd
  have HO2 := Lib.hid ho
  clear hd ho
  go_wp2_with fail
  go_ret
  exact ⟨.slice none 0 0, rfl, HD.out, HO.out.trans HO2.out, by simp [Value.ownBlock]⟩
theorem flush_any (w : World) (base : Nat) (A : Addrs) (d : D) (h : DevAt w base A d) (hT : d.T ≤ 1000000) (hLn : d.L.length ≤ 1000000) :
    Calls Try.prog 19 #[.pointer (some ⟨A.b, 0, none⟩)] w (Did w base A (.int .i64 d.flushE) d.flush) := by
  unfold D.flushE D.flush
  by_cases h0 : d.F = 0
  · rw [if_pos h0, if_pos h0]
    exact flush_no w base A d h hT h0
  · rw [if_neg h0, if_neg h0]
    exact flush_yes w base A d h hT hLn h0
theorem flush_nil (w : World) : Calls Try.prog 19 #[.pointer none] w fun e w' => e = .returned (.int .i64 1) ∧ w = w' := by
  have H := Lib.hid (ask_nil w 2 0)
  go_enter Try.func19, Try.ntmps19
  go_wp2_with fail
  refine H.out.mono ?_
  rintro e w2 ⟨rfl, rfl⟩
  go_wp2_with fail
  go_ret
  exact ⟨rfl, rfl⟩

/-- A slice that reads as bytes. -/
def BytesAt (w : World) (v : Value) (l : List Int) : Prop := ∃ (a : Option Addr) (cap : Nat), v = .slice a l.length cap ∧ l.length ≤ maxLen ∧ (∀ n ∈ l, 0 ≤ n ∧ n ≤ 255) ∧ ∀ i (h : i < l.length), ∃ b o, a = some ⟨b, o, none⟩ ∧ w.cell? ⟨b, o + i, none⟩ = some (.int .u8 l[i])
theorem BytesAt.keep {w w' : World} {v : Value} {l : List Int} (h : BytesAt w v l) (hk : ∀ b o x, v.ownBlock = some b → w.cell? ⟨b, o, none⟩ = some x → w'.cell? ⟨b, o, none⟩ = some x) : BytesAt w' v l := by
  obtain ⟨a, cap, rfl, hl, hb, hc⟩ := h
  refine ⟨a, cap, rfl, hl, hb, fun i hi => ?_⟩
  obtain ⟨b, o, rfl, hx⟩ := hc i hi
  exact ⟨b, o, rfl, hk b _ _ rfl hx⟩

set_option maxRecDepth 100000 in
theorem crashed (k : Nat) (w : World) (H : Nat) (kv : Value) (l : List Int) (hk : k ≤ 1000000) (hv : BytesAt w kv l) (hH : w.cell? ⟨H, 0, none⟩ = some kv) : Calls Try.prog 33 #[.int .i64 (k : Int), .pointer (some ⟨H, 0, none⟩)] w fun e w' => e = .returned (.bool (oddAt l k)) ∧ w = w' := by
  obtain ⟨a, cap, rfl, hl, hb, hc⟩ := hv
  unfold maxLen at hl
  unfold oddAt
  by_cases hlt : k < l.length
  · obtain ⟨b, o, rfl, hx⟩ := hc k hlt
    have hbk := hb l[k] (List.getElem_mem hlt)
    have e1 : l.getD k 0 = l[k] := by simp [List.getD, hlt]
    rw [e1]
    have h0 : (0 : Int) ≤ (k : Int) := by omega
    have h1 : (k : Int) < (l.length : Int) := by omega
    obtain ⟨hb0, hb1⟩ := hbk
    clear hc hb e1
    generalize l[k] = x at *
    by_cases hodd : x % 2 = 1
    · rw [show (decide (k < l.length) && decide (x % 2 = 1)) = true by simp [hlt, hodd]]
      have e2 : (x % 2 == 1) = true := beq_iff_eq.2 hodd
      clear hodd
      go_enter Try.func33, Try.ntmps33
      go_wp2_with fail
      go_ret
      exact ⟨rfl, rfl⟩
    · rw [show (decide (k < l.length) && decide (x % 2 = 1)) = false by simp [hodd]]
      have e2 : (x % 2 == 1) = false := beq_eq_false_iff_ne.2 hodd
      clear hodd
      go_enter Try.func33, Try.ntmps33
      go_wp2_with fail
      go_ret
      exact ⟨rfl, rfl⟩
  · rw [show (decide (k < l.length) && decide (l.getD k 0 % 2 = 1)) = false by simp [hlt]]
    have h1 : ¬ (k : Int) < (l.length : Int) := by omega
    clear hc hb
    go_enter Try.func33, Try.ntmps33
    go_wp2_with fail
    go_ret
    exact ⟨rfl, rfl⟩

theorem crash_any (w : World) (base : Nat) (A : Addrs) (d : D) (h : DevAt w base A d) (hLn : d.L.length ≤ 1000000) (kv : Value) (l : List Int) (hv : BytesAt w kv l) (hsep : ∀ b, kv.ownBlock = some b → ¬ A.foot b) :
    Calls Try.prog 21 #[.pointer (some ⟨A.b, 0, none⟩), kv] w (Did w base A (.tuple #[]) (d.crash l)) := by
  obtain ⟨a, cp, hkv⟩ : ∃ a cp, kv = .slice a l.length cp := by obtain ⟨a, cp, e, _⟩ := hv; exact ⟨a, cp, e⟩
  have hf := h.foot_lt
  have hA := h.only (S := fun _ => False) ((Only.refl _ w).alloc (.cells #[kv] 32)) (fun _ _ h => h)
  have hH : Blk (w.alloc (.cells #[kv] 32)) w.heap.size [kv] := Blk.newAt _ _ _ rfl rfl
  have hstill : ∀ b o x, w.cell? ⟨b, o, none⟩ = some x → (w.alloc (.cells #[kv] 32)).cell? ⟨b, o, none⟩ = some x := fun b o x hx => by
    rw [World.cell?_alloc_lt _ _ _ (World.block_lt_of_cell? _ _ hx)]
    exact hx
  have hS := settle_any (w.alloc (.cells #[kv] 32)) base A d hA hLn 33 #[.pointer (some ⟨w.heap.size, 0, none⟩)] (oddAt l) enter33 (fun k w2 hk ho =>
    crashed k w2 w.heap.size kv l (by omega)
      (hv.keep fun b o x hb hx => by
        have h1 := hstill b o x hx
        have hlt := World.block_lt_of_cell? _ _ hx
        rw [← h1]
        exact World.cell?_of_block (ho.block b (by simp; exact Nat.lt_succ_of_lt hlt) (hsep b hb)))
      ((hH.only ho fun hh => by have := (hf _ hh).2; omega).cell rfl))
  have HS := Lib.hid hS
  subst hkv
  have HO0 := Lib.hid (show Only A.foot w (w.alloc (.cells #[.slice a l.length cp] 32)) from (Only.refl _ _).alloc _)
  clear hS hA hH hstill hf h hv hsep
  go_enter Try.func21, Try.ntmps21
  go_wp2_with fail
  refine HS.out.mono ?_
  rintro e w2 ⟨rfl, hd, ho⟩
  obtain ⟨N, hd⟩ := hd
  have c3 := hd.c3
  have f3 := hd.blk.frozen 3
  have HD := Lib.hid (show DevAt (w2.setCell ⟨A.b, 3, none⟩ (.int .i64 (-1))) base { A with lv := .slice none 0 0 } (d.crash l) from ⟨N, hd.setF (f := -1) ⟨by decide, by decide⟩⟩)
  have HO := Lib.hid (show Only A.foot w (w2.setCell ⟨A.b, 3, none⟩ (.int .i64 (-1))) from (HO0.out.trans ho).setCell (.inl (.inl rfl)) _)
  clear hd ho
  go_wp2_with fail
  go_end0
  exact ⟨.slice none 0 0, rfl, HD.out, HO.out, by simp [Value.ownBlock]⟩
theorem crash_nil (kv : Value) (a : Option Addr) (n cp : Nat) (hkv : kv = .slice a n cp) (w : World) : Calls Try.prog 21 #[.pointer none, kv] w fun e w' => e = .returned (.tuple #[]) ∧ Below w.heap.size w w' := by
  subst hkv
  go_enter Try.func21, Try.ntmps21
  go_wp2_with fail
  refine bodyPost_ret (results_none rfl _ _ _) rfl ?_
  exact ⟨rfl, (Below.refl _ _).alloc (Nat.le_refl _) _⟩
end Go.Proofs.Ytdmjhpebpooiaaa
