/- Dc: texts of elder seats turned: what the stage needs of them. Dz: stage 2's texts turned: a crash of the device. -/
import Derived.Test.YthlnmdihdcfphaaGreatDoorDb
namespace Go.Proofs.YthlnmdihdcfphaaGreatDoor
set_option linter.unusedSimpArgs false
set_option linter.unusedVariables false
open Go.RowKit

namespace De
open Go.RowKit
end De

end Go.Proofs.YthlnmdihdcfphaaGreatDoor
namespace Go.Proofs.YthlnmdihdcfphaaGreatDoor
set_option linter.unusedSimpArgs false
set_option linter.unusedVariables false
open Go.RowKit

namespace De
open Go.RowKit
/-- Is byte k of keep there, and odd? -/
def oddAt (keep : List Int) (k : Nat) : Bool := decide (k < keep.length) && decide (keep.getD k 0 % 2 = 1)
/-- The loose writes whose byte of keep is odd. -/
def kept (L : List (Nat × Array Value)) (keep : List Int) : List (Nat × Array Value) := keptTo L (oddAt keep) L.length
def D.crash (d : D) (keep : List Int) : D := { d with S := app d.S (kept d.L keep), L := [], F := -1 }
theorem enter33 (args : Array Value) (w : World) : (callFunc 30 args).run Tryz.prog w = .ok (.enter 30 args) w := by go_simp
/-- A slice that reads as bytes. -/
def BytesAt (w : World) (v : Value) (l : List Int) : Prop := ∃ (a : Option Addr) (cap : Nat), v = .slice a l.length cap ∧ l.length ≤ maxLen ∧ (∀ n ∈ l, 0 ≤ n ∧ n ≤ 255) ∧ ∀ i (h : i < l.length), ∃ b o, a = some ⟨b, o, none⟩ ∧ w.cell? ⟨b, o + i, none⟩ = some (.int .u8 l[i])
theorem BytesAt.keep {w w' : World} {v : Value} {l : List Int} (h : BytesAt w v l) (hk : ∀ b o x, v.ownBlock = some b → w.cell? ⟨b, o, none⟩ = some x → w'.cell? ⟨b, o, none⟩ = some x) : BytesAt w' v l := by
  obtain ⟨a, cap, rfl, hl, hb, hc⟩ := h
  refine ⟨a, cap, rfl, hl, hb, fun i hi => ?_⟩
  obtain ⟨b, o, rfl, hx⟩ := hc i hi
  exact ⟨b, o, rfl, hk b _ _ rfl hx⟩
set_option maxRecDepth 100000 in
theorem crashed (k : Nat) (w : World) (H : Nat) (kv : Value) (l : List Int) (hk : k ≤ 1000000) (hv : BytesAt w kv l) (hH : w.cell? ⟨H, 0, none⟩ = some kv) : Calls Tryz.prog 30 #[.int .i64 (k : Int), .pointer (some ⟨H, 0, none⟩)] w fun e w' => e = .returned (.bool (oddAt l k)) ∧ w = w' := by
  obtain ⟨a, cap, rfl, hl, hb, hc⟩ := hv
  unfold maxLen at hl
  unfold oddAt
  by_cases hlt : k < l.length
  · obtain ⟨b, o, rfl, hx⟩ := hc k hlt
    have hbk := hb l[k] (List.getElem_mem hlt)
    have e1 : l.getD k 0 = l[k] := by simp [List.getD, hlt]
    rw [e1]
    have h0 : (0 : Int) ≤ (k : Int) := by omega
    have h1 : (k : Int) < (l.length : Int) := by omega
    obtain ⟨hb0, hb1⟩ := hbk
    clear hc hb e1
    generalize l[k] = x at *
    by_cases hodd : x % 2 = 1
    · rw [show (decide (k < l.length) && decide (x % 2 = 1)) = true by simp [hlt, hodd]]
      have e2 : (x % 2 == 1) = true := beq_iff_eq.2 hodd
      clear hodd
      go_enter Tryz.func30, Tryz.ntmps30
      go_wp2_with fail
      go_ret
      exact ⟨rfl, rfl⟩
    · rw [show (decide (k < l.length) && decide (x % 2 = 1)) = false by simp [hodd]]
      have e2 : (x % 2 == 1) = false := beq_eq_false_iff_ne.2 hodd
      clear hodd
      go_enter Tryz.func30, Tryz.ntmps30
      go_wp2_with fail
      go_ret
      exact ⟨rfl, rfl⟩
  · rw [show (decide (k < l.length) && decide (l.getD k 0 % 2 = 1)) = false by simp [hlt]]
    have h1 : ¬ (k : Int) < (l.length : Int) := by omega
    clear hc hb
    go_enter Tryz.func30, Tryz.ntmps30
    go_wp2_with fail
    go_ret
    exact ⟨rfl, rfl⟩
theorem crash_any (w : World) (base : Nat) (A : Addrs) (d : D) (h : DevAt w base A d) (hLn : d.L.length ≤ 1000000) (kv : Value) (l : List Int) (hv : BytesAt w kv l) (hsep : ∀ b, kv.ownBlock = some b → ¬ A.foot b) :
    Calls Tryz.prog 15 #[.pointer (some ⟨A.b, 0, none⟩), kv] w (Did w base A (.tuple #[]) (d.crash l)) := by
  obtain ⟨a, cp, hkv⟩ : ∃ a cp, kv = .slice a l.length cp := by obtain ⟨a, cp, e, _⟩ := hv; exact ⟨a, cp, e⟩
  have hf := h.foot_lt
  have hA := h.only (S := fun _ => False) ((Only.refl _ w).alloc (.cells #[kv] 25)) (fun _ _ h => h)
  have hH : Blk (w.alloc (.cells #[kv] 25)) w.heap.size [kv] := Blk.newAt _ _ _ rfl rfl
  have hstill : ∀ b o x, w.cell? ⟨b, o, none⟩ = some x → (w.alloc (.cells #[kv] 25)).cell? ⟨b, o, none⟩ = some x := fun b o x hx => by
    rw [World.cell?_alloc_lt _ _ _ (World.block_lt_of_cell? _ _ hx)]
    exact hx
  have hS := settle_any (w.alloc (.cells #[kv] 25)) base A d hA hLn 30 #[.pointer (some ⟨w.heap.size, 0, none⟩)] (oddAt l) enter33 (fun k w2 hk ho =>
    crashed k w2 w.heap.size kv l (by omega)
      (hv.keep fun b o x hb hx => by
        have h1 := hstill b o x hx
        have hlt := World.block_lt_of_cell? _ _ hx
        rw [← h1]
        exact World.cell?_of_block (ho.block b (by simp; exact Nat.lt_succ_of_lt hlt) (hsep b hb)))
      ((hH.only ho fun hh => by have := (hf _ hh).2; omega).cell rfl))
  have HS := Lib.hid hS
  subst hkv
  have HO0 := Lib.hid (show Only A.foot w (w.alloc (.cells #[.slice a l.length cp] 25)) from (Only.refl _ _).alloc _)
  clear hS hA hH hstill hf h hv hsep
  go_enter Tryz.func15, Tryz.ntmps15
  go_wp2_with fail
  refine HS.out.mono ?_
  rintro e w2 ⟨rfl, hd, ho⟩
  obtain ⟨N, hd⟩ := hd
  have c3 := hd.c3
  have f3 := hd.blk.frozen 3
  have HD := Lib.hid (show DevAt (w2.setCell ⟨A.b, 3, none⟩ (.int .i64 (-1))) base { A with lv := .slice none 0 0 } (d.crash l) from ⟨N, hd.setF (f := -1) ⟨by decide, by decide⟩⟩)
  have HO := Lib.hid (show Only A.foot w (w2.setCell ⟨A.b, 3, none⟩ (.int .i64 (-1))) from (HO0.out.trans ho).setCell (.inl (.inl rfl)) _)
  clear hd ho
  go_wp2_with fail
  go_end0
  exact ⟨.slice none 0 0, rfl, HD.out, HO.out, by simp [Value.ownBlock]⟩
theorem dv_crash {W w : World} {b : Nat} {F : Nat → Prop} {d : D} (h : Dv W w b F d) (hLn : d.L.length ≤ 1000000) (kv : Value) (l : List Int) (hv : BytesAt w kv l) (hsep : ∀ k, kv.ownBlock = some k → ¬ F k) :
    Calls Tryz.prog 15 #[.pointer (some ⟨b, 0, none⟩), kv] w (After W w b F (.tuple #[]) (d.crash l)) := by
  obtain ⟨⟨A, rfl, rfl, hd⟩, hB⟩ := h
  exact (crash_any w W.heap.size A d hd hLn kv l hv hsep).mono fun e w' h => After.of_did hB (fun k hk => (hd.foot_lt k hk).1) h
theorem keep_at {w : World} {v : Value} {l : List Int} (h : _root_.Go.Proofs.YthlnmdihdcfphaaGreatDoor.BytesAt w v l) (hl : l.length ≤ maxLen) (hb : ∀ x ∈ l, Byte x) : BytesAt w v l := by
  obtain ⟨a, cap, e, hc⟩ := h
  refine ⟨a, cap, e, hl, fun n hn => ⟨(hb n hn).1, by have := (hb n hn).2; omega⟩, fun i hi => ?_⟩
  exact hc i _ (List.getElem?_eq_getElem hi)
end De

end Go.Proofs.YthlnmdihdcfphaaGreatDoor
