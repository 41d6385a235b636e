/- Steps. -/
import Derived.Test.YtdbfmikeaoaebaaGreatDoorMat
import Derived.BigQuiet
import Derived.Deep.DeepFit
import Derived.Deep.DeepMust
import Derived.Deep.LoopGhost
import Derived.Deep.QuietTactic
import Derived.Lib.Hide
import Derived.OrdersHeld
import Derived.WalkKit
import Derived.WalkLawsBesides
import Derived.WalkSpells
import Derived.Test.YtdbfmikeaoaebaaGreatDoorMar
import Derived.Deep.AppendLies
import Derived.Deep.Cut
import Derived.Deep.CutRange
import Derived.Deep.Upon
import Derived.Laws.CopyRow
import Derived.Laws.Rows
import Derived.Laws.StructEq
import Derived.Lib.AppendZeros
import Derived.Lib.EndianBits
import Derived.RegionTactic
set_option linter.unusedSimpArgs false
set_option linter.unusedVariables false
set_option maxRecDepth 100000
set_option maxHeartbeats 4000000
namespace Go.Proofs.YtdbfmikeaoaebaaGreatDoor
open Go.RowKit Rn
variable {A:Nat→Prop} {B N c g:Nat} {E:World→Prop} {L:List Value} {V:List (Nat×List Value)} {W w w':World} {fv hv ov tv v:Value} {l:List Int}
def JY(r:Rn.Rg)(hv ov:Value)(a:Ja)(fv:Value):List Value:=r.cells++[hv,ov,.int .i64 a.seg,.int .i64 a.off,.int .u32 a.seq,fv]
def JM(r:Rn.Rg)(hv ov:Value)(a:Ja)(fv dv mv:Value):List Value:=JY r hv ov a fv++[dv,mv]
def atC(a:Ja)(fv:Value):List Value:=[.int .i64 a.seg,.int .i64 a.off,.int .u32 a.seq,fv]
theorem zB{r:Rn.Rg}(h:r.Wf)(hv ov:Value)(a:Ja)(fv:Value):(JY r hv ov a fv).length=22:=by simp [JY,h.cells]
theorem Ja1{r:Rn.Rg}(h:r.Wf)(hv ov:Value)(a:Ja)(fv dv mv:Value):(JM r hv ov a fv dv mv).length=24:=by simp [JM,zB h]
theorem Xo{r:Rn.Rg}(h:r.Wf):Ob 56 r.cells:=⟨by rw [h.cells]; kernel_rfl,.inl ⟨_,Tryz.underlying56⟩,Rn.Rg.cell_one r,Rn.Rg.noStr r⟩
theorem sta_mem{r:Rn.Rg}{a:Ja}(h:v∈JY r hv ov a fv):v∈r.cells∨v=hv∨v=ov∨v=fv∨v=.int .i64 a.seg∨v=.int .i64 a.off∨v=.int .u32 a.seq:=by
 simp only [JY,List.mem_append,List.mem_cons,List.not_mem_nil,or_false] at h;rcases h with h | h | h | h | h | h | h <;> simp [h]
theorem Ko{r:Rn.Rg}(h:r.Wf){a:Ja}(h1:IsSl hv)(h2:IsSl ov)(h3:IsSl fv):Ob 60 (JY r hv ov a fv) :=
 ⟨by rw [zB h]; kernel_rfl,.inl ⟨_,Tryz.underlying60⟩,fun v hm=>by
  rcases sta_mem hm with hm | rfl | rfl | rfl | rfl | rfl | rfl
  · exact Rn.Rg.cell_one r v hm
  · exact h1.one
  · exact h2.one
  · exact h3.one
  · rfl
  · rfl
  · rfl,fun v hm=>by
  rcases sta_mem hm with hm | rfl | rfl | rfl | rfl | rfl | rfl
  · exact Rn.Rg.noStr r v hm
  · exact h1.ns
  · exact h2.ns
  · exact h3.ns
  · exact fun t e=>by cases e
  · exact fun t e=>by cases e
  · exact fun t e=>by cases e⟩
def Jh2(v:Value):Prop:=∃p,v=.pointer p
theorem YE{r:Rn.Rg}(h:r.Wf){dv mv:Value}{a:Ja}(h1:IsSl hv)(h2:IsSl ov)(h3:IsSl fv)(h4:Jh2 dv)(h5:IsSl mv):Ob 168 (JM r hv ov a fv dv mv):=by
 have ho:=Ko h h1 h2 h3 (a:=a);obtain⟨p,rfl⟩:=h4;refine⟨by rw [Ja1 h]; kernel_rfl,.inl ⟨_,Tryz.underlying168⟩,fun v hm=>?_,fun v hm=>?_⟩
 · simp only [JM,List.mem_append,List.mem_cons,List.not_mem_nil,or_false] at hm;rcases hm with hm | rfl | rfl
   · exact ho.one v hm
   · rfl
   · exact h5.one
 · simp only [JM,List.mem_append,List.mem_cons,List.not_mem_nil,or_false] at hm;rcases hm with hm | rfl | rfl
   · exact ho.ns v hm
   · exact fun t e=>by cases e
   · exact h5.ns
theorem XS(a:Ja)(h:IsSl fv):Ob 58 (atC a fv):=by
 obtain⟨p,n,c,rfl⟩:=h;exact⟨by kernel_rfl,.inl ⟨_,Tryz.underlying58⟩,fun v hv=>by simp [atC] at hv; rcases hv with rfl | rfl | rfl | rfl <;> rfl,fun v hv t e=>by subst e; simp [atC] at hv⟩
theorem Jft(h:l.length=8):Ob 54 (Jq l):=⟨by rw [List.length_map,h]; kernel_rfl,.inr ⟨_,_,Tryz.underlying54⟩,fun v hv=>by obtain⟨z,_,rfl⟩:=List.mem_map.1 hv; rfl,fun v hv t e=>by obtain⟨z,_,rfl⟩:=List.mem_map.1 hv; cases e⟩
abbrev geC(r:Rn.Rg):List Value:=[.int .i64 r.p,.int .i64 r.s,.int .i64 r.l,.int .i64 r.f]
theorem xS(r:Rn.Rg)(hv ov:Value)(a:Ja)(fv:Value):JY r hv ov a fv=[.int .u32 r.gen]++(geC r++([.int .i64 r.seg,.int .i64 r.off,.int .u32 r.seq]++Jq r.rs++[hv,ov,.int .i64 a.seg,.int .i64 a.off,.int .u32 a.seq,fv])):=by simp [JY,Rn.Rg.cells,Rn.Rg.hd]
theorem Jdd(r:Rn.Rg)(hv ov:Value)(a:Ja)(fv:Value):JY r hv ov a fv=r.hd++(Jq r.rs++[hv,ov,.int .i64 a.seg,.int .i64 a.off,.int .u32 a.seq,fv]):=by simp [JY,Rn.Rg.cells]
theorem Jde(r:Rn.Rg):r.cells=[.int .u32 r.gen]++(geC r++([.int .i64 r.seg,.int .i64 r.off,.int .u32 r.seq]++Jq r.rs)):=by simp [Rn.Rg.cells,Rn.Rg.hd]
theorem jS(r:Rn.Rg)(hv ov:Value)(a:Ja)(fv dv mv:Value):JM r hv ov a fv dv mv=[.int .u32 r.gen]++(geC r++([.int .i64 r.seg,.int .i64 r.off,.int .u32 r.seq]++Jq r.rs++[hv,ov,.int .i64 a.seg,.int .i64 a.off,.int .u32 a.seq,fv]++[dv,mv])):=by simp [JM,JY,Rn.Rg.cells,Rn.Rg.hd]
theorem xU(r:Rn.Rg)(hv ov:Value)(a:Ja)(fv dv mv:Value):JM r hv ov a fv dv mv=[]++(JY r hv ov a fv++[dv,mv]):=by simp [JM]
theorem Jdf(r:Rn.Rg)(hv ov:Value)(a:Ja)(fv dv mv:Value):JM r hv ov a fv dv mv=[]++(r.cells++([hv,ov,.int .i64 a.seg,.int .i64 a.off,.int .u32 a.seq,fv]++[dv,mv])):=by simp [JM,JY]
theorem kX(r:Rn.Rg)(hv ov:Value)(a:Ja)(fv dv mv:Value):JM r hv ov a fv dv mv=(r.cells++[hv,ov])++(atC a fv++[dv,mv]):=by simp [JM,JY,atC]
theorem Xp{r:Rn.Rg}(h:r.Wf)(hv ov:Value)(a:Ja)(fv dv mv:Value)(k:Nat):(JM r hv ov a fv dv mv)[16+k]? = ([hv,ov,.int .i64 a.seg,.int .i64 a.off,.int .u32 a.seq,fv]++[dv,mv])[k]? := by
 unfold JM JY;rw [List.append_assoc,List.getElem?_append_right (by rw [h.cells]; omega),h.cells,Nat.add_sub_cancel_left]
theorem jT{r:Rn.Rg}(h:r.Wf)(hv ov:Value)(a:Ja)(fv dv mv:Value)(k:Nat)(v:Value):(JM r hv ov a fv dv mv).set (16+k) v=r.cells++(([hv,ov,.int .i64 a.seg,.int .i64 a.off,.int .u32 a.seq,fv]++[dv,mv]).set k v):=by
 unfold JM JY;rw [List.append_assoc,List.set_append_right _ _ (by rw [h.cells]; omega),h.cells,Nat.add_sub_cancel_left]
theorem J5j{r:Rn.Rg}(h:r.Wf)(hv ov:Value)(a:Ja)(fv dv mv v:Value):(JM r hv ov a fv dv mv).set 16 v=JM r v ov a fv dv mv:=by rw [show 16=16+0 from rfl,jT h]; simp [JM,JY]
theorem J5k{r:Rn.Rg}(h:r.Wf)(hv ov:Value)(a:Ja)(fv dv mv v:Value):(JM r hv ov a fv dv mv).set 17 v=JM r hv v a fv dv mv:=by rw [show 17=16+1 from rfl,jT h]; simp [JM,JY]
theorem J5l{r:Rn.Rg}(h:r.Wf)(hv ov:Value)(a:Ja)(fv dv mv v:Value):(JM r hv ov a fv dv mv).set 21 v=JM r hv ov a v dv mv:=by rw [show 21=16+5 from rfl,jT h]; simp [JM,JY]
theorem J5m{r:Rn.Rg}(h:r.Wf)(hv ov:Value)(a:Ja)(fv dv mv v:Value):(JM r hv ov a fv dv mv).set 23 v=JM r hv ov a fv dv v:=by rw [show 23=16+7 from rfl,jT h]; simp [JM,JY]
theorem Ja2{r:Rn.Rg}(h:r.Wf)(hv ov:Value)(a:Ja)(fv:Value)(k:Nat):(JY r hv ov a fv)[16+k]? = [hv,ov,.int .i64 a.seg,.int .i64 a.off,.int .u32 a.seq,fv][k]? := by
 unfold JY;rw [List.getElem?_append_right (by rw [h.cells]; omega),h.cells,Nat.add_sub_cancel_left]
abbrev LE(W:World)(B:Nat)(lv:Value)(l:List Int)(u:World):Prop:=FB W B u∧OwnN u B lv l
abbrev LA(lv:Value)(k:Nat):Prop:=False∨lv.ownBlock=some k
theorem St.row0(h:Rn.St W.heap.size (fun _=>False) (fun u=>Below W.heap.size W u) V w):Rn.St W.heap.size (LA (.slice none 0 0)) (LE W w.heap.size (.slice none 0 0) []) V w:=by
 have h2:Rn.St W.heap.size (fun _=>False) (FB W w.heap.size) V w:=⟨h.sz,h.blk,h.ge,h.nd,⟨h.ex,Nat.le_refl _⟩,Stays.fb _ _,h.av,h.ns⟩
 exact St.add h2 (OwnN.nil _ _) Stays.own fun p _ hk=>by cases hk
theorem St.appL{lv:Value}(h:Rn.St W.heap.size (LA lv) (LE W B lv l) V w)(hw:W.heap.size≤B){m:List Int}(k:IntsAt w tv m)(hlen:l.length+m.length≤1000000)(ty:TypeId) :
 ∃lv' w',(Builtin.append_ #[41,41] ty #[lv,tv]).run Tryz.prog w=.ok lv' w'∧Rn.St W.heap.size (LA lv') (LE W B lv' (l++m)) V w':=by
 obtain⟨lv',w',hr,hO,hg,hor⟩:=J33 h.ex.2 h.ex.1.2 k hlen ty;refine⟨lv',w',hr,Nat.le_trans h.sz hg.size,fun i g L hi=>(h.blk i g L hi).of_block (hg.block g (h.blk i g L hi).lt fun e=>h.av i g L hi (.inr e.symm)),h.ge,h.nd,⟨⟨h.ex.1.1.trans (Kt hg h.sz fun k hk=>by have:=(h.ex.2.lt k hk).1; omega),Nat.le_trans h.ex.1.2 hg.size⟩,hO⟩,(Stays.fb W B).both Stays.own,fun i g L hi hk=>?_,h.ns⟩;rcases hk with hk | hk
 · exact hk
 · rcases hor with e | e
   · exact h.av i g L hi (.inr (e ▸ hk))
   · rw [e] at hk;cases hk;exact absurd (h.blk i _ L hi).lt (Nat.lt_irrefl _)
theorem St.less2{lv:Value}{A3:Nat→Prop}{E3:World→Prop}(h:Rn.St W.heap.size A3 (fun u=>LE W B lv l u∧E3 u) V w)(ha:∀k,LA lv k→A3 k:=by intro k hk; first | exact hk | exact .inl hk):Rn.St W.heap.size (LA lv) (LE W B lv l) V w :=
 ⟨h.sz,h.blk,h.ge,h.nd,h.ex.1,(Stays.fb W B).both Stays.own,fun i g L hi hk=>h.av i g L hi (ha _ hk),h.ns⟩
theorem St.appL2{lv:Value}{A3:Nat→Prop}{E3:World→Prop}(h:Rn.St W.heap.size (fun k=>LA lv k∨A3 k) (fun u=>LE W B lv l u∧E3 u) V w)(hw:W.heap.size≤B){m:List Int}(k:IntsAt w tv m)(hlen:l.length+m.length≤1000000)(ty:TypeId) :
 ∃lv' w',(Builtin.append_ #[41,41] ty #[lv,tv]).run Tryz.prog w=.ok lv' w'∧Rn.St W.heap.size (LA lv') (LE W B lv' (l++m)) V w':=St.appL (St.less2 h) hw k hlen ty
theorem St.newg(h:Rn.St N A E V w)(hns:∀v∈L,∀t,v≠.string t)(hg:w.heap.size=g)(hA:Blk w' g L)(hb:Below w.heap.size w w'):Rn.St N A E (V++[(g,L)]) w':=by
 subst hg;exact h.new hns hA hb
theorem Jh3{x:Int}(h:Blk w g [.int .i64 x]):IntsAt w (.slice (some ⟨g,0,none⟩) 1 c) [x]:=⟨_,c,rfl,fun i z hz=>by
 cases i with
 | zero =>
  simp at hz
  subst hz
  exact⟨g,0,rfl,h.cell rfl⟩
 | succ i=>simp at hz⟩
theorem J5n(w:World)(ev:Operand→Value)(op:Oper)(x y:Operand)(ho:op.op=.index 54 x y)(hl:l.length=8)(j:Nat)(z:Int)(hz:l[j]? = some z)(hx:ev x=.agg (Jq l).toArray)(hy:ev y=.int .i64 j):(execOp ev op).run Tryz.prog w=.ok (.value (.int .i64 z)) w:=by
 unfold execOp;simp only [ho,hx,hy,Sem.run_bind,jJ w l hl j z hz,Result.andThen_ok,Sem.run_pure]
def J5o(B:Nat)(q:Option (List Int))(e:Ending)(w':World):Prop:=match q with
 | some l=>∃sv,e=.returned (.tuple #[sv,.nilIface])∧OwnN w' B sv l
 | none=>∃T d t ts,e=.returned (.tuple #[.slice none 0 0,.iface T d])∧Chain w' 13 (t::ts) (.iface T d)
open Go.RowKit
namespace Ca
open Go.RowKit Pl
open Go.RowKit
open Go.RowKit
open Go.RowKit
theorem maps_yes(g:Gm)(h:g.Ok)(w:World):Calls Tryz.prog 82 #[g.v] w (Zr w (.int .i64 g.maps)):=by
 have H:=Zh fun w=>JS g h w;obtain⟨⟨h1,h2⟩,_,_,_⟩:=h;go_enter Tryz.func82,Tryz.ntmps82
 go_wp2_with fail
 refine (H.out _).mono ?_;rintro e w1 ⟨rfl,hb⟩;have HB:=Zh (KS hb);clear hb;have c0:=HB.out.2.1.p
 go_wp2_with fail
 go_ret;exact⟨jK (by unfold Gm.maps; rw [Int.tdiv_eq_ediv_of_nonneg (by omega)]; omega),HB.out.1⟩
open Go.RowKit
theorem Jfu(a b:Int):(if b<a then b else a)=min a b:=by split <;> omega
theorem Jfv(a b:Int):(if a<b then b else a)=max a b:=by split <;> omega
theorem J34(g:Gm)(h:g.Ok)(w:World):Calls Tryz.prog 126 #[g.v] w (Zr w (.int .i64 g.cap)):=by
 have H:=Zh fun w=>JS g h w;have HM:=Zh fun w=>maps_yes g h w;obtain⟨m0,m1,_⟩:=h.maps;obtain⟨⟨h1,h2⟩,⟨h3,h4⟩,_,_⟩:=h;have HC:Hid (max 0 (min g.p ((4*(g.s-4)-g.maps)/3))=g.cap):=Zh rfl;go_enter Tryz.func126,Tryz.ntmps126
 go_wp2_with fail
 refine (H.out _).mono ?_;rintro e w1 ⟨rfl,hb⟩;have HB:=Zh (KS hb);clear hb
 go_wp2_with fail
 refine J8 (fun wq=>Below w1.heap.size w1 wq) (by kernel_rfl) ?_;refine Jj 0 (some 6) (.pointer (some ⟨w.heap.size,0,none⟩)) rfl rfl (by kernel_rfl) (by kernel_rfl) (by kernel_rfl) (fun _ _ _ h=>h) rfl (fun w _=>by go_simp) (Below.refl _ _).drew ?_;refine nm ?_;refine Jj 1 (some 7) (.int .i64 g.p) rfl rfl (by kernel_rfl) (by kernel_rfl) (by kernel_rfl) (fun _ _ _ h=>h) rfl (fun w hS=>by obtain⟨c0,c1,c2,c3⟩:=HB.out.2.1.below hS HB.out.2.2; go_simp) (Below.refl _ _).drew ?_;refine nm ?_;refine Jj 2 (some 8) (.pointer (some ⟨w.heap.size,1,none⟩)) rfl rfl (by kernel_rfl) (by kernel_rfl) (by kernel_rfl) (fun _ _ _ h=>h) rfl (fun w _=>by go_simp) (Below.refl _ _).drew ?_;refine nm ?_;refine Jj 3 (some 9) (.int .i64 g.s) rfl rfl (by kernel_rfl) (by kernel_rfl) (by kernel_rfl) (fun _ _ _ h=>h) rfl (fun w hS=>by obtain⟨c0,c1,c2,c3⟩:=HB.out.2.1.below hS HB.out.2.2; go_simp) (Below.refl _ _).drew ?_;refine nm ?_;refine Jj 4 (some 10) (.int .i64 (g.s-4)) rfl rfl (by kernel_rfl) (by kernel_rfl) (by kernel_rfl) (fun _ _ _ h=>h) rfl (fun w _=>by go_simp <;> first | done | (go_ints; first | done | trivial)) (Below.refl _ _).drew ?_;refine nm ?_;refine Jj 5 (some 11) (.int .i64 (4*((g.s-4)))) rfl rfl (by kernel_rfl) (by kernel_rfl) (by kernel_rfl) (fun _ _ _ h=>h) rfl (fun w _=>by go_simp <;> first | done | (go_ints; first | done | trivial)) (Below.refl _ _).drew ?_;refine nm ?_;refine Jj 6 (some 12) (g.v) rfl rfl (by kernel_rfl) (by kernel_rfl) (by kernel_rfl) (fun _ _ _ h=>h) rfl (fun w hS=>by obtain⟨c0,c1,c2,c3⟩:=HB.out.2.1.below hS HB.out.2.2; go_simp) (Below.refl _ _).drew ?_;refine nm ?_;refine Zo 7 fun K hK=>?_;go_simp;refine (HM.out _).mono ?_;rintro e w1 ⟨rfl,hb⟩;have HS1:=Zh (Jk (Below.refl _ _).drew hb);refine hK _ _ HS1.out ?_;clear hK hb K;refine nm ?_;refine Jj 8 (some 14) (.int .i64 (((4*((g.s-4))))-g.maps)) rfl rfl (by kernel_rfl) (by kernel_rfl) (by kernel_rfl) (fun _ _ _ h=>h) rfl (fun w _=>by go_simp <;> first | done | (go_ints; first | done | trivial)) HS1.out ?_;refine nm ?_;refine Jj 9 (some 15) (.int .i64 (((((4*((g.s-4))))-g.maps))/3)) rfl rfl (by kernel_rfl) (by kernel_rfl) (by kernel_rfl) (fun _ _ _ h=>h) rfl (fun w _=>by go_simp <;> first | done | (go_ints; first | done | trivial)) HS1.out ?_;refine nm ?_;refine Jj 10 (some 16) (.int .i64 (min g.p (((((4*((g.s-4))))-g.maps))/3))) rfl rfl (by kernel_rfl) (by kernel_rfl) (by kernel_rfl) (fun _ _ _ h=>h) rfl (fun w _=>by go_simp <;> exact Jfu _ _) HS1.out ?_;refine nm ?_;refine Jj 11 (some 17) (.int .i64 (max 0 (min g.p (((((4*((g.s-4))))-g.maps))/3)))) rfl rfl (by kernel_rfl) (by kernel_rfl) (by kernel_rfl) (fun _ _ _ h=>h) rfl (fun w _=>by go_simp <;> exact Jfv _ _) HS1.out ?_;refine nm ?_;refine Jj 12 (some 2) (.int .i64 (max 0 (min g.p (((((4*((g.s-4))))-g.maps))/3)))) rfl rfl (by kernel_rfl) (by kernel_rfl) (by kernel_rfl) (fun _ _ _ h=>h) rfl (fun w _=>by go_simp) HS1.out ?_;refine nm ?_;refine Zd ?_
 go_wp2_with fail
 go_ret;exact⟨jK HC.out,HB.out.1.trans (HS1.mono HB.out.1.size)⟩
end Ca
open Go.RowKit Rn
variable {A:Nat→Prop} {E:World→Prop} {L M:List Value} {N c g n:Nat} {V:List (Nat×List Value)} {l:List Int} {sv v:Value} {w w':World}
section
variable {ops:Array Oper} {rest:List Oper} {dst:Option Tmp} {x y:Operand} {t:TypeId} {t2:TypeId} {pos:String} {after:Array Edge} {guard:Option (Nat×Bool)} {a:Act} {w:World} {Q:Exit→Act→World→Prop}
theorem Jhk(o:Ob t L)(hB:Blk w g L){G:Prop}(k:G)(hx:a.eval x=.pointer (some ⟨g,0,none⟩):=by rfl)(hw:Region.wanted ⟨dst,.load t x,t2,pos,after,guard⟩ (yielded ops a.tmps)=true:=by rfl)(m:G→wpList Tryz.prog ops Q rest (a.put dst (.agg L.toArray)) w:=by intro h; (try simp only [Act.put,List.setIfInBounds_toArray,List.set_cons_succ,List.set_cons_zero]); exact h):wpList Tryz.prog ops Q (⟨dst,.load t x,t2,pos,after,guard⟩::rest) a w:=by
 rcases o.ag with ⟨f,hu⟩ | ⟨n,e,hu⟩
 · exact Jb hw t x rfl g 0 hx L.toArray _ hu rfl (by rw [List.size_toArray]; exact o.sz) (Blk.all hB rfl) (m k)
 · exact Jb hw t x rfl g 0 hx L.toArray _ hu rfl (by rw [List.size_toArray]; exact o.sz) (Blk.all hB rfl) (m k)
theorem jU{p q:List Value}(hm:M=p++(L++q))(hB:Blk w g M):∀j (hj:j<L.toArray.size),w.cell? ⟨g,p.length+j,none⟩=some L.toArray[j]:=fun j hj=>by
 subst hm;exact hB.cell (J9v (by rw [List.getElem?_eq_getElem (by simpa using hj)]; simp))
theorem Jhl{p q:List Value}(o:Ob t L)(hB:Blk w g M)(hm:M=p++(L++q)){G:Prop}(k:G)(hc:p.length=c:=by rfl)(hx:a.eval x=.pointer (some ⟨g,c,none⟩):=by rfl)(hw:Region.wanted ⟨dst,.load t x,t2,pos,after,guard⟩ (yielded ops a.tmps)=true:=by rfl)(m:G→wpList Tryz.prog ops Q rest (a.put dst (.agg L.toArray)) w:=by intro h; (try simp only [Act.put,List.setIfInBounds_toArray,List.set_cons_succ,List.set_cons_zero]); exact h):wpList Tryz.prog ops Q (⟨dst,.load t x,t2,pos,after,guard⟩::rest) a w:=by
 subst hc;rcases o.ag with ⟨f,hu⟩ | ⟨n,e,hu⟩
 · exact Jb hw t x rfl g _ hx L.toArray _ hu rfl (by rw [List.size_toArray]; exact o.sz) (jU hm hB) (m k)
 · exact Jb hw t x rfl g _ hx L.toArray _ hu rfl (by rw [List.size_toArray]; exact o.sz) (jU hm hB) (m k)
theorem QR{p q:List Value}(o:Ob t L)(hm:M=p++(L++q)){u:World}(hB:Blk u g M)(hc:p.length=c)(ev:Operand→Value)(op:Oper)(x:Operand)(ho:op.op=.load t x)(hx:ev x=.pointer (some ⟨g,c,none⟩)):(execOp ev op).run Tryz.prog u=.ok (.value (.agg L.toArray)) u:=by
 subst hc;rcases o.ag with ⟨f,hu⟩ | ⟨n,e,hu⟩
 · exact exec_load_at u ev op t x ho g _ hx L.toArray _ hu rfl (by rw [List.size_toArray]; exact o.sz) (jU hm hB)
 · exact exec_load_at u ev op t x ho g _ hx L.toArray _ hu rfl (by rw [List.size_toArray]; exact o.sz) (jU hm hB)
theorem lcb(hB:Blk w g L)(c':Nat){G:Prop}(k:G)(hc:c=c':=by rfl)(hl:L[c]? = some v:=by rfl)(hx:a.eval x=.pointer (some ⟨g,c,none⟩):=by rfl)(hw:Region.wanted ⟨dst,.load t x,t2,pos,after,guard⟩ (yielded ops a.tmps)=true:=by rfl)(r:w.cell? ⟨g,c,none⟩=some v→(execOp a.eval ⟨dst,.load t x,t2,pos,after,guard⟩).run Tryz.prog w=.ok (.value v) w:=by intro hq; go_simp)(m:G→wpList Tryz.prog ops Q rest (a.put dst v) w:=by intro h; (try simp only [Act.put,List.setIfInBounds_toArray,List.set_cons_succ,List.set_cons_zero]); exact h):wpList Tryz.prog ops Q (⟨dst,.load t x,t2,pos,after,guard⟩::rest) a w :=
 J62 v hw (r (hB.cell hl)) (m k)
end
theorem qU{r:Rn.Rg}(h:r.Wf)(hv ov:Value)(a:Ja)(fv dv mv:Value):(JM r hv ov a fv dv mv)[16]? = some hv:=Xp h hv ov a fv dv mv 0
theorem Je5{r:Rn.Rg}(h:r.Wf)(hv ov:Value)(a:Ja)(fv dv mv:Value):(JM r hv ov a fv dv mv)[17]? = some ov:=Xp h hv ov a fv dv mv 1
theorem J35{r:Rn.Rg}(h:r.Wf)(hv ov:Value)(a:Ja)(fv dv mv:Value):(JM r hv ov a fv dv mv)[18]? = some (.int .i64 a.seg):=Xp h hv ov a fv dv mv 2
theorem Je6{r:Rn.Rg}(h:r.Wf)(hv ov:Value)(a:Ja)(fv dv mv:Value):(JM r hv ov a fv dv mv)[19]? = some (.int .i64 a.off):=Xp h hv ov a fv dv mv 3
theorem Jh4{r:Rn.Rg}(h:r.Wf)(hv ov:Value)(a:Ja)(fv dv mv:Value):(JM r hv ov a fv dv mv)[21]? = some fv:=Xp h hv ov a fv dv mv 5
theorem J36{r:Rn.Rg}(h:r.Wf)(hv ov:Value)(a:Ja)(fv dv mv:Value):(JM r hv ov a fv dv mv)[22]? = some dv:=Xp h hv ov a fv dv mv 6
theorem Je7{r:Rn.Rg}(h:r.Wf)(hv ov:Value)(a:Ja)(fv dv mv:Value):(JM r hv ov a fv dv mv)[23]? = some mv:=Xp h hv ov a fv dv mv 7
def blL(l:List Bool):List Value:=l.map Value.bool
theorem Jfw(l:List Bool):∀v∈blL l,∀t,v≠.string t:=fun v hv t e=>by subst e; simp [blL] at hv
theorem Jfx:(Tryz.prog.info? 4).map (fun i=>(i.zero,i.size,i.bytes))=some (some (.bool false),1,1):=by kernel_rfl
theorem Jh5(n:Nat)(hn:n≤1024)(w:World):(Instr.makeSlice 245 (.int .i64 (n:Int)) (.int .i64 (n:Int))).run Tryz.prog w=.ok (.slice (some ⟨w.heap.size,0,none⟩) n n) (w.alloc (.cells (blL (List.replicate n false)).toArray 4)):=by
 obtain⟨i,hi,hz,hs,hb⟩:=info_parts Jfx;have:=run_makeSlice (P:=Tryz.prog) w 245 4 i _ Tryz.underlying245 hi hz .i64 .i64 n n (by omega) (Int.le_refl _) (by rw [hs]; simp; omega) (by rw [hb]; omega) (by omega);rw [hs] at this;have e:madeCells #[.bool false] n=(blL (List.replicate n false)).toArray:=by
  apply Array.ext_getElem?;intro j
  by_cases hj:j<n <;> simp [madeCells,blL,hj,Nat.mod_one]
 rw [←e];simpa [Value.cells] using this
theorem St.owns0(h:Rn.St N A E V w)(hb:Below w.heap.size w w')(hy:OwnN w' w.heap.size sv l):Rn.St N (fun k=>A k∨sv.ownBlock=some k) (fun u=>E u∧OwnN u N sv l) V w':=by
 have k:=h.call hb;exact⟨k.sz,k.blk,k.ge,k.nd,⟨k.ex,hy.mono h.sz⟩,h.st.both Stays.own,fun i g L hi ho=>ho.elim (h.av i g L hi) fun ho=>absurd (h.blk i g L hi).lt (Nat.not_lt.2 (hy.lt g ho).1),h.ns⟩
section
variable {ops:Array Oper} {rest:List Oper} {dst:Option Tmp} {x y:Operand} {t2:TypeId} {pos:String} {after:Array Edge} {guard:Option (Nat×Bool)} {a:Act} {w:World} {Q:Exit→Act→World→Prop}
theorem mkB(hn:n≤1024)(hx:a.eval x=.int .i64 n)(hy:a.eval y=.int .i64 n)(hw:Region.wanted ⟨dst,.makeSlice 245 x y,t2,pos,after,guard⟩ (yielded ops a.tmps)=true)(h:∀g w',w.heap.size=g→Blk w' g (blL (List.replicate n false))→Below w.heap.size w w'→wpList Tryz.prog ops Q rest (a.put dst (.slice (some ⟨g,0,none⟩) n n)) w'):wpList Tryz.prog ops Q (⟨dst,.makeSlice 245 x y,t2,pos,after,guard⟩::rest) a w :=
 by
 refine Jp _ _ hw ?_ (h _ _ rfl (Blk.new w (blL (List.replicate n false)).toArray 4) ((Below.refl _ _).alloc (Nat.le_refl _) (.cells (blL (List.replicate n false)).toArray 4)));unfold execOp;simp only [hx,hy,Sem.run_bind,Jh5 n hn w,Result.andThen_ok,Sem.run_pure]
theorem mkR(hn:n≤64)(hx:a.eval x=.int .i64 n)(hy:a.eval y=.int .i64 n)(hw:Region.wanted ⟨dst,.makeSlice 95 x y,t2,pos,after,guard⟩ (yielded ops a.tmps)=true)(h:∀g w',w.heap.size=g→Blk w' g (Mp.row (fun _=>Bk.none) n)→Below w.heap.size w w'→wpList Tryz.prog ops Q rest (a.put dst (.slice (some ⟨g,0,none⟩) n n)) w'):wpList Tryz.prog ops Q (⟨dst,.makeSlice 95 x y,t2,pos,after,guard⟩::rest) a w:=by
 refine Jp _ _ hw ?_ (h _ _ rfl (Blk.new w (Mp.row (fun _=>Bk.none) n).toArray 82) ((Below.refl _ _).alloc (Nat.le_refl _) (.cells (Mp.row (fun _=>Bk.none) n).toArray 82)));unfold execOp;simp only [hx,hy,Sem.run_bind,Mp.Jfn n hn w,Result.andThen_ok,Sem.run_pure]
end
open Go.RowKit Rn
theorem ZO{X:List (List Int)}{r:Rn.Rg}(hwf:r.Wf)(hg:r.g.Ok){hv ov fv:Value}(a:Ja)(hs:List Int)(hH:(hs.length:Int)=r.p)(hsm:∀x∈hs,Jo x)(w:World)(hi:IntsAt w hv hs)(h2:IsSl ov)(h3:IsSl fv)(hvr:Vars w){W0:World}{b:Nat}{F:Nat→Prop}{d:De.D}(hd:De.Dv W0 w b F d)(hLn:d.L.length≤1000000)(hX:Img d X)(ht:4+r.s*r.l≤(X.length:Int)):Calls Tryz.prog 51 #[.pointer (some ⟨b,0,none⟩),.agg (JY r hv ov a fv).toArray] w fun e w'=>J5o w.heap.size (Ye X r.g hs r.rs) e w'∧Below w.heap.size w w':=by
 have H:=Rn.St.start (Stays.below w) (Below.refl _ _);have HV:=Zh hvr;have HWF:=Zh hwf;have HSO:=Zh h2;have HSF:=Zh h3;have HSM:=Zh hsm;have hg':=hg;obtain⟨⟨(p1:1≤r.p),(p64:r.p≤64)⟩,-⟩:=hg';obtain⟨n,hn⟩:∃n,hs.length=n:=⟨_,rfl⟩
 have hn0:0<hs.length:=by omega
 have HSH:=Zh hi.sl;obtain⟨hb,ho,hc,rfl,hcell⟩:=hi.has hn0;generalize hn:hs.length=n at *;have HN:=Zh hn;have HNP:Hid ((n:Int)=r.p∧1≤n∧n≤64):=Zh (by omega);have HCE:=Zh hcell;have HHS:Hid (JV X r.g 0 hs=(JV X r.g 0 hs).map ([]++·)):=Zh (by simp);have HNO:Hid (∀(k:Nat) w',k<n→Below w.heap.size w w'→Calls Tryz.prog 35 #[.pointer (some ⟨b,0,none⟩),r.g.v,.int .i64 k,.int .i64 0] w' fun e w2=>jd 17 chZ e w2∧Below w'.heap.size w' w2):=Zh fun k w' hk hb=>ZN _ X.length r.g k 0 w' (hvr.below (Nat.le_refl _) hb) (fun w2 hb2=>by rw [←hX.len]; exact De.ZY ((hd.below hb).below hb2)) hg ⟨by omega,by show (k:Int)<r.p; omega⟩ ht rfl;have HBD:Hid (∀(k:Nat) h w',k<n→h≠0→Jo h→Below w.heap.size w w'→Ju X r.g k 3 h=none→Calls Tryz.prog 35 #[.pointer (some ⟨b,0,none⟩),r.g.v,.int .i64 k,.int .i64 h] w' fun e w2=>jd 13 chZ e w2∧Below w'.heap.size w' w2):=Zh fun k h w' hk h0 hs hb hc=>jx hg k h ⟨by omega,by show (k:Int)<r.p; omega⟩ h0 hs w' (hvr.below (Nat.le_refl _) hb) (hd.below hb) hLn hX ht hc;have HOK:Hid (∀(k:Nat) h w' l,k<n→h≠0→Jo h→Below w.heap.size w w'→Ju X r.g k 3 h=some l→Calls Tryz.prog 35 #[.pointer (some ⟨b,0,none⟩),r.g.v,.int .i64 k,.int .i64 h] w' fun e w2=>(∃sv,e=.returned (.tuple #[.agg (chC sv (Fo.KZ (l.map (·.2)))).toArray,.nilIface])∧OwnN w2 w'.heap.size sv (l.map (·.1)))∧Below w'.heap.size w' w2):=Zh fun k h w' l hk h0 hs hb hc=>kW hg k h ⟨by omega,by show (k:Int)<r.p; omega⟩ h0 hs w' (hvr.below (Nat.le_refl _) hb) (hd.below hb) hLn hX ht hc;have HPG:Hid (∀(k:Int) h l,Ju X r.g k 3 h=some l→(Fo.KZ (l.map (·.2))).length=32):=Zh fun k h l hc=>by
  have h1:=Xx hc;have h2:=YD (L:=l.map (·.2)) (YO hX.sc hc);rw [h1.1] at h2;exact h2
 clear hwf hg hH hsm hi h2 h3 hvr hd hLn hX ht hn hn0 hcell p1 p64;go_enter Tryz.func51,Tryz.ntmps51;go_upto_region 0 with fail;refine Zl ?_;refine bx H ?_ (hns:=(Ko HWF.out HSH.out HSO.out HSF.out).ns);clear H;intro g1 w1 H;refine tk (.slice none 0 0) ?_;refine tk (Value.nilIface) ?_;go_upto_region 1 with fail;refine Zl ?_;refine tk (.slice none 0 0) ?_;refine Zn ?_;have HB0:=Zh H.sz;obtain⟨B,hB⟩:∃B,w1.heap.size=B:=⟨_,rfl⟩
 have HR:=St.row0 H;rw [hB] at HR HB0;clear H hB;have H:=HR;clear HR;go_upto_region 2 with fail;refine Zl ?_;refine tk (.pointer (some ⟨g1,16,none⟩)) ?_;refine lc H 0 (16) ?_ (hl:=Ja2 HWF.out _ _ _ _ 0);refine tk (.int .i64 n) ?_;refine tk (.int .i64 0) ?_;go_wp2_with fail
 go_loopg [6,16] n (fun q s6 i wr=>∃(k:Nat) (acc:List Int) (lv:Value),n-k≤q∧k≤n∧i=.int .i64 k∧lv=s6∧acc.length≤3*k∧JV X r.g 0 hs=(JV X r.g k (hs.drop k)).map (acc++·)∧Rn.St w.heap.size (LA lv) (LE w B lv acc) [(g1,JY r (.slice (some ⟨hb,ho,none⟩) n hc) ov a fv)] wr)
 case atStart=>exact⟨0,[],_,by omega,by omega,rfl,rfl,by simp,HHS.out,H⟩
 case round =>
  clear H HHS;obtain⟨k,acc,lv,hq,hk,rfl,rfl,hal,hpl,H⟩:=hrel;have HPL:=Zh hpl;have HAL:=Zh hal;have HQ:=Zh hq;clear hpl hal hq
  by_cases hlt:k<n
  · have hk1:(k:Int)<(n:Int):=by omega
    obtain⟨h,hh⟩:∃h,hs[k]? = some h:=⟨_,List.getElem?_eq_getElem (by have:=HN.out; omega)⟩
    have c0:=HCE.out k h hh;have c1:=(H.ex.1.1.cell (block_lt_of_cell c0)).trans c0;have HSMh:=Zh (HSM.out h (List.mem_of_getElem? hh));have HKN:=Zh hlt;have hdr:hs.drop k=h::hs.drop (k+1):=(List.drop_eq_getElem_cons (by have:=HN.out; omega)).trans (by rw [(List.getElem?_eq_some_iff.1 hh).2]);have HDR:=Zh hdr;clear c0 hh hdr hk hlt;go_upto_region 5 with fail;clear c1 hk1
    by_cases h0:h=0
    · subst h0;go_upto_region 5 with fail;refine Zl ?_;refine tk (.pointer (some ⟨b,0,none⟩)) ?_;refine tk (.pointer (some ⟨g1,0,none⟩)) ?_;refine tk (.pointer (some ⟨g1,1,none⟩)) ?_;refine ldP (Jh r.g) H 0 (xS _ _ _ _ _) ?_;refine tk (.int .i64 k) ?_;refine tk (.int .i64 0) ?_;refine J0 rfl fun K hK=>?_;go_simp;refine (HNO.out k _ HKN.out H.ex.1.1).mono ?_;rintro e w2 ⟨⟨T2,d2,t2,s2,rfl,hc⟩,hb⟩;replace H:=(H.call hb).chain hc;clear hc hb;refine hK _ _ (nm ?_);clear hK K;refine tk (.tuple #[.agg chZ.toArray,.iface T2 d2]) ?_;refine tk (.agg chZ.toArray) ?_;refine tk (.iface T2 d2) ?_;refine al Kx H ?_ (hns:=chz_ob.ns);clear H;intro g3 w3 H;refine stO chz_ob (Ob.len chz_ob chz_ob) H 1 ?_;clear H;intro w3 H;refine tk (.iface T2 d2) ?_;go_upto_region 6 with fail;refine Zl ?_;refine tk (.iface T2 d2) ?_;refine cl (Yv 17 17 true rfl _ _ _ _ H.ex.2) H ?_;clear H;intro w4 H;refine Zn ?_;have hb1:=HKN.out;have hb2:=HNP.out.2.2
      go_wp2_with fail
      go_roundg (n-(k+1))
      case measure=>have:=HQ.out; have:=HKN.out; omega
      case rel=>exact⟨k+1,acc,lv,by omega,by have:=HKN.out; omega,by go_num,rfl,by have:=HAL.out; omega,by rw [HPL.out,HDR.out,Ku rfl]; rfl,(St.less2 H).cut 1⟩
    have H0:=Zh h0;cases hc2:Ju X r.g k 3 h
    · have HC:=Zh hc2;clear hc2 h0;go_upto_region 5 with fail;refine Zl ?_;refine tk (.pointer (some ⟨b,0,none⟩)) ?_;refine tk (.pointer (some ⟨g1,0,none⟩)) ?_;refine tk (.pointer (some ⟨g1,1,none⟩)) ?_;refine ldP (Jh r.g) H 0 (xS _ _ _ _ _) ?_;refine tk (.int .i64 k) ?_;refine tk (.int .i64 h) ?_;refine J0 rfl fun K hK=>?_;go_simp;refine (HBD.out k h _ HKN.out H0.out HSMh.out H.ex.1.1 HC.out).mono ?_;rintro e w2 ⟨⟨T2,d2,t2,s2,rfl,hc⟩,hb⟩;replace H:=(H.call hb).chain hc;clear hc hb;refine hK _ _ (nm ?_);clear hK K;refine tk (.tuple #[.agg chZ.toArray,.iface T2 d2]) ?_;refine tk (.agg chZ.toArray) ?_;refine tk (.iface T2 d2) ?_;refine al Kx H ?_ (hns:=chz_ob.ns);clear H;intro g3 w3 H;refine stO chz_ob (Ob.len chz_ob chz_ob) H 1 ?_;clear H;intro w3 H;refine tk (.iface T2 d2) ?_;go_upto_region 6 with fail;refine Zl ?_;refine tk (.iface T2 d2) ?_;refine cl (Yv 13 17 false rfl _ _ _ _ H.ex.2) H ?_;clear H;intro w4 H;go_upto_region 7 with fail;refine Zl ?_;refine tk (.iface T2 d2) ?_;refine tk (.bool true) ?_;go_upto_region 8 with fail;refine Zl ?_;refine tk (.iface T2 d2) ?_;refine J0 rfl fun K hK=>?_;go_simp;refine (wrap_err _ _ H.ex.2).mono ?_;rintro e w5 ⟨T5,d5,t5,s5,rfl,hc,hb⟩;replace H:=(H.call hb).chain hc;clear hc hb;refine hK _ _ (nm ?_);clear hK K;refine tk (.slice none 0 0) ?_;refine tk (.iface T5 d5) ?_;go_wp2_with fail
      go_ret2;refine⟨?_,H.ex.1.1.1.1⟩;unfold Ye;rw [HPL.out,HDR.out,kR H0.out HC.out];exact⟨_,_,_,_,rfl,H.ex.2⟩
    · rename_i l
      have HC:=Zh hc2;have HCL:=Zh (HPG.out k h l hc2);have HLN:=Zh (XH hc2).1;clear hc2 h0;go_upto_region 5 with fail;refine Zl ?_;refine tk (.pointer (some ⟨b,0,none⟩)) ?_;refine tk (.pointer (some ⟨g1,0,none⟩)) ?_;refine tk (.pointer (some ⟨g1,1,none⟩)) ?_;refine ldP (Jh r.g) H 0 (xS _ _ _ _ _) ?_;refine tk (.int .i64 k) ?_;refine tk (.int .i64 h) ?_;refine J0 rfl fun K hK=>?_;go_simp;refine (HOK.out k h _ _ HKN.out H0.out HSMh.out H.ex.1.1 HC.out).mono ?_;rintro e w2 ⟨⟨sv,rfl,ho⟩,hb⟩;have HSL:=Zh ho.sl;replace H:=St.owns H hb ho;clear ho hb;refine hK _ _ (nm ?_);clear hK K;refine tk (.tuple #[.agg (chC sv (Fo.KZ (l.map (·.2)))).toArray,.nilIface]) ?_;refine tk (.agg (chC sv (Fo.KZ (l.map (·.2)))).toArray) ?_;refine tk (.nilIface) ?_;refine al Kx H ?_ (hns:=chz_ob.ns);clear H;intro g3 w3 H;refine stO (K6 HSL.out HCL.out) (Ob.len (K6 HSL.out HCL.out) chz_ob) H 1 ?_;clear H;intro w3 H;refine tk (.nilIface) ?_;go_upto_region 6 with fail;refine Zl ?_;refine tk (.nilIface) ?_;refine cl (Yu 17 false rfl _) H ?_;clear H;intro w4 H;go_upto_region 7 with fail;refine Zl ?_;refine tk (.nilIface) ?_;refine tk (.bool false) ?_;go_upto_region 9 with fail;refine Zl ?_;refine tk (lv) ?_;refine tk (.pointer (some ⟨g3,0,none⟩)) ?_;refine lc H 1 (0) ?_;obtain⟨lv2,w5,hr,H2⟩:=St.appL2 H HB0.out (OwnN.ints H.ex.2) (by have:=HAL.out; have:=HNP.out; have:=HLN.out; have:=HKN.out; simp only [List.length_map]; omega) 41;refine Jp lv2 w5 rfl (Ql _ _ _ _ 41 41 rfl lv sv lv2 rfl rfl hr) ?_;clear hr H;have H:=H2;clear H2;refine nm ?_;refine tk (lv2) ?_;refine Zn ?_;have hb1:=HKN.out;have hb2:=HNP.out.2.2
      go_wp2_with fail
      go_roundg (n-(k+1))
      case measure=>have:=HQ.out; have:=HKN.out; omega
      case rel=>exact⟨k+1,acc++l.map (·.1),lv2,by omega,by have:=HKN.out; omega,by go_num,rfl,by have:=HAL.out; have:=HLN.out; simp only [List.length_append,List.length_map]; omega,by rw [HPL.out,HDR.out,Xy H0.out HC.out,Option.map_map]; congr 1; funext z; simp,H.cut 1⟩
  · obtain rfl:k=n:=by omega
    have HPN:Hid (Ye X r.g hs r.rs=some (acc++Q4 r.rs)):=Zh (by
     unfold Ye
     rw [HPL.out,List.drop_of_length_le (by have:=HN.out; omega)]
     simp [JV])
    have HA2:Hid (acc.length≤192):=Zh (by have:=HAL.out; have:=HNP.out; omega);have hk1:¬(k:Int)<(k:Int):=by omega
    clear HPL HAL HQ hk hlt;go_upto_region 11 with fail;clear hk1;go_upto_region 11 with fail;refine Zl ?_;refine tk (.pointer (some ⟨g1,0,none⟩)) ?_;refine tk (.pointer (some ⟨g1,8,none⟩)) ?_;refine ldP (Jft HWF.len) H 0 (Jdd _ _ _ _ _) ?_;refine tk (.int .i64 0) ?_;go_wp2_with fail
    go_loopg [6,45] 8 (fun q s6 i wr=>∃(j:Nat) (ac2:List Int) (lv:Value),8-j≤q∧j≤8∧i=.int .i64 j∧lv=s6∧ac2.length≤192+j∧acc++Q4 r.rs=ac2++Q4 (r.rs.drop j)∧Rn.St w.heap.size (LA lv) (LE w B lv ac2) [(g1,JY r (.slice (some ⟨hb,ho,none⟩) k hc) ov a fv)] wr)
    case atStart=>exact⟨0,acc,_,by omega,by omega,rfl,rfl,by have:=HA2.out; omega,rfl,H⟩
    case round =>
     clear H;obtain⟨j,ac2,lv2,hq,hj,rfl,rfl,hal,hpl,H⟩:=hrel;have HPL:=Zh hpl;have HAL:=Zh hal;have HQ:=Zh hq;clear hpl hal hq
     by_cases hlt:j<8
     · obtain⟨h,hh⟩:∃h,r.rs[j]? = some h:=⟨_,List.getElem?_eq_getElem (by rw [HWF.len]; exact hlt)⟩
       have HX:=Zh hh;have HKN:=Zh hlt;have hdr:r.rs.drop j=h::r.rs.drop (j+1):=(List.drop_eq_getElem_cons (by rw [HWF.len]; exact hlt)).trans (by rw [(List.getElem?_eq_some_iff.1 hh).2]);have HDR:=Zh hdr;have hk1:(j:Int)<8:=by omega
       clear hh hdr hj hlt;go_upto_region 13 with fail;clear hk1;go_upto_region 13 with fail;refine Zl ?_;refine tk (.int .i64 h) ?_ (hr:=by exact J5n _ _ _ _ _ rfl HWF.len j h HX.out rfl rfl);refine tk (.int .i64 h) ?_;refine Zn ?_
       by_cases hh0:h=0
       · have HH0:=Zh hh0;clear hh0;go_upto_region 14 with fail;refine Zl ?_;refine tk (.int .i64 h) ?_;refine tk (.bool false) ?_ (hr:=by go_simp; simp [HH0.out]);refine Zn ?_;have hb1:=HKN.out
         go_wp2_with fail
         go_roundg (8-(j+1))
         case measure=>have:=HQ.out; have:=HKN.out; omega
         case rel=>exact⟨j+1,ac2,lv2,by omega,by have:=HKN.out; omega,by go_num,rfl,by have:=HAL.out; omega,by rw [HPL.out,HDR.out]; simp [Q4,HH0.out],H.cut 1⟩
       · have HH0:=Zh hh0;clear hh0;go_upto_region 14 with fail;refine Zl ?_;refine tk (.int .i64 h) ?_;refine tk (.bool true) ?_ (hr:=by go_simp; simp [HH0.out]);go_upto_region 15 with fail;refine Zl ?_;refine tk (lv2) ?_;refine tk (.int .i64 h) ?_;refine J0 rfl fun K hK=>?_;refine J1s _ h 52 rfl rfl rfl fun gl w2 hg hA hb hl=>hK _ _ ?_;clear hK K;replace H:=St.newg H (fun v hv t e=>by subst e; simp at hv) hg hA hb;clear hA hb hl hg;refine nm ?_;have HI1:=Jh3 (c:=1) (H.blk 1 _ _ rfl);obtain⟨lv3,w3,hr,H2⟩:=St.appL H HB0.out HI1 (by have:=HAL.out; have:=HKN.out; simp; omega) 41;refine Jp lv3 w3 rfl (Ql _ _ _ _ 41 41 rfl lv2 (.slice (some ⟨gl,0,none⟩) 1 1) lv3 rfl rfl hr) ?_;clear hr H HI1;have H:=H2;clear H2;refine nm ?_;refine tk (lv3) ?_;refine Zn ?_;have hb1:=HKN.out
         go_wp2_with fail
         go_roundg (8-(j+1))
         case measure=>have:=HQ.out; have:=HKN.out; omega
         case rel=>exact⟨j+1,ac2++[h],lv3,by omega,by have:=HKN.out; omega,by go_num,rfl,by have:=HAL.out; simp; omega,by rw [HPL.out,HDR.out]; simp [Q4,HH0.out],H.cut 1⟩
     · obtain rfl:j=8:=by omega
       have hf:ac2=acc++Q4 r.rs:=by
        rw [HPL.out,List.drop_of_length_le (by rw [HWF.len]; omega)];simp [Q4]
       have HF:=Zh hf;have hk1:¬((8:Nat):Int)<8:=by omega
       clear HPL HAL HQ hj hlt hf;go_upto_region 17 with fail;clear hk1;go_upto_region 17 with fail;refine Zl ?_;refine tk (lv2) ?_;refine tk (lv2) ?_;refine tk (Value.nilIface) ?_;go_wp2_with fail
       go_ret2;refine⟨?_,H.ex.1.1⟩;rw [HPN.out,←HF.out];exact⟨lv2,rfl,OwnN.mono H.ex.2 HB0.out⟩
open Go.RowKit
namespace Mp
open Go.RowKit Pl
def J1u(w w':World)(sv:Value)(l:List Int):Prop:=IntsAt w' sv l∧∀k,sv.ownBlock=some k→w.heap.size≤k
theorem J1v(g:Gm)(h:g.Ok)(l:List Int)(hl:(l.length:Int)=g.p)(n:Nat)(hn:g.maps=n)(r:Nat)(w:World)(hr:Blk w r (row (mk l) n)) :
 Calls Tryz.prog 158 #[g.v,.slice (some ⟨r,0,none⟩) n n] w fun e w'=>∃sv,e=.returned sv∧J1u w w' sv l∧Below w.heap.size w w':=by
 obtain⟨n',p,e1,e2,n1,n8,p1,p64,p8,-⟩:=h.nat;obtain rfl:n'=n:=by omega
 have hlp:l.length=p:=by omega
 have HL:=Zh hlp;have HRB:=Zh hr;have HG0:Hid (GAt (g.box w) w.heap.size g):=Zh (GAt.box g w);have MK:=fun w=>make24 p p64 w;have HB0:=Zh (gbox_below g w);have hgp:=e2;clear h hl hn e1 hlp hr e2;have c0:(g.box w).cell? ⟨w.heap.size,0,none⟩=some (.int .i64 p):=by rw [←hgp]; exact HG0.p
 clear hgp;go_enter Tryz.func158,Tryz.ntmps158
 go_wp2_with fail
 have HK0:Hid (Blk ((g.box w).alloc (.cells (Jq (zeros p)).toArray 3)) (w.heap.size+1) (Jq (zeros p))):=Zh (by have:=Blk.new (g.box w) (Jq (zeros p)).toArray 3; simpa using this);have HW0:=Zh (HB0.alloc (by simp) (.cells (Jq (zeros p)).toArray 3));obtain⟨q,hq⟩:∃q,w.heap.size+1=q:=⟨_,rfl⟩
 have HQ:Hid (w.heap.size<q):=Zh (by omega);rw [hq] at HK0 ⊢;clear hq c0 HG0 MK
 go_loopg [14] p (fun z i wr=>∃m:Nat,p-m≤z∧m≤p∧i=.int .i64 m∧Blk wr q (Jq (fill l p m))∧Below w.heap.size w wr)
 case atStart=>exact⟨0,by omega,by omega,rfl,by rw [J5b]; exact HK0.out,HW0.out⟩
 case round =>
  obtain⟨m,hz,hm,rfl,hk1,hb⟩:=hrel;have HK:=Zh hk1;have HW:=Zh hb;clear hk1 hb HK0 HW0
  by_cases hlt:m<p
  · have hk1:(m:Int)<(p:Int):=by omega
    have hx:l[m]? = some (l.getD m 0):=by
     have:=HL.out;rw [List.getD_eq_getElem?_getD,List.getElem?_eq_getElem (by omega)];rfl
    have HO:=Zh fun w=>Jfo m (by omega) w;have HC:=HRB.cell (Jd1 (l:=l) (n:=n') (p:=m) (by omega));have HC:=(HW.cell (block_lt_of_cell HC)).trans HC;obtain⟨x,hxe⟩:∃x,l.getD m 0=x:=⟨_,rfl⟩
    rw [hxe] at HC hx;have HF:=Zh (J9p HL.out hx);have d3:=HK.cell (Jd5 HL.out hlt);have f3:=HK.frozen m;clear hx hxe;obtain⟨u,hu⟩:∃u,m/8=u:=⟨_,rfl⟩
    obtain⟨v,hv⟩:∃v,m%8=v:=⟨_,rfl⟩
    have hu1:u<n':=by omega
    have hv1:v<8:=by omega
    rw [hu,hv] at HO HC;have d2:wr.cell? ⟨r,u*45+37+v,none⟩=some (.int .i64 x):=by rw [Nat.add_assoc]; exact HC
    clear HC hu hv;have hu2:(u:Int)<(n':Int):=by omega
    have hv2:(v:Int)<8:=by omega
    go_wp2_with fail
    refine (HO.out _).mono ?_;rintro e w3 ⟨rfl,rfl⟩
    go_wp2_with fail
    go_roundg (p-(m+1))
    case measure=>omega
    case rel =>
     have hset:=HK.set m (.int .i64 x);rw [HF.out] at hset;exact⟨m+1,by omega,by omega,by go_num,hset,HW.setCell (Nat.le_of_lt HQ.out) _⟩
  · obtain rfl:p=m:=by omega
    have hk1:¬(p:Int)<(p:Int):=by omega
    go_wp2_with fail
    go_ret;have hI:=IntsAt.of_blk (cap:=p) HK.out;rw [J9o HL.out,HL.out] at hI;exact⟨_,rfl,⟨hI,fun k hk=>by cases hk; exact Nat.le_of_lt HQ.out⟩,HW.out⟩
theorem Ja3(g:Gm)(l:List Int)(h:J32 g l)(hsm:∀x∈l,Jo x)(n:Nat)(hn:g.maps=n)(r:Nat)(w:World)(hr:Blk w r (row (mk l) n)) :
 Calls Tryz.prog 124 #[g.v,.slice (some ⟨r,0,none⟩) n n] w fun e w'=>∃sv,e=.returned (.tuple #[sv,.int .i64 0])∧J1u w w' sv l∧Below w.heap.size w w':=by
 have HP:=Zh fun w hs=>Jd4 g l h hsm n hn r w hs;have HL:=Zh fun w hs=>J1v g h.1 l h.2.1 n hn r w hs;have HI:=Zh hr;have HI0:=Zh (HI.below (gbox_below g w) HI.lt);clear hn h hr;go_enter Tryz.func124,Tryz.ntmps124
 go_wp2_with fail
 refine (HP.out _ HI0.out).mono ?_;rintro e w1 ⟨rfl,hb⟩;have HB:=Zh (KS hb);clear hb;obtain⟨c0,c1,c2,c3⟩:=HB.out.2.1;have HI1:=Zh (HI.below HB.out.1 HI.lt)
 go_wp2_with fail
 refine (HL.out _ HI1.out).mono ?_;rintro e w2 ⟨sv,rfl,hk,hb⟩;have HK:=Zh hk;have HB2:=Zh (HB.out.1.trans (hb.mono HB.out.1.size));clear hk hb
 go_wp2_with fail
 go_ret2;exact⟨sv,rfl,⟨HK.out.1,fun k hk=>Nat.le_trans HB.out.1.size (HK.out.2 k hk)⟩,HB2.out⟩
end Mp
open Go.RowKit Rn
variable {F:Nat→Prop} {W0:World} {X:List (List Int)} {b j k:Nat} {fv hv ov:Value} {l:List Int}
theorem zC{g:Pl.Gm}{hs R:List Int}{seg off cap:Int}(h:cap<(Hs.cnt hs:Int)):QG X g hs R seg off cap=none:=if_pos h
theorem zD{g:Pl.Gm}{hs R:List Int}{seg off cap:Int}(hp:Ye X g hs R=none):QG X g hs R seg off cap=none:=by
 unfold QG
 by_cases hc:cap<((hs.filter fun x=>x != 0).length:Int)
 · rw [if_pos hc]
 · rw [if_neg hc,hp]
theorem kY{g:Pl.Gm}{hs R:List Int}{seg off cap:Int}(h:¬cap<(Hs.cnt hs:Int))(hp:Ye X g hs R=some l)(h2:l.Nodup∧∀p∈l,J5h g seg off p):QG X g hs R seg off cap=some l:=by
 have h':¬cap<((hs.filter fun x=>x != 0).length:Int):=h;unfold QG;rw [if_neg h',hp];exact if_pos h2
theorem kZ{g:Pl.Gm}{hs R:List Int}{seg off cap:Int}(hp:Ye X g hs R=some l)(h2:¬(l.Nodup∧∀p∈l,J5h g seg off p)):QG X g hs R seg off cap=none:=by
 unfold QG
 by_cases hc:cap<((hs.filter fun x=>x != 0).length:Int)
 · rw [if_pos hc]
 · rw [if_neg hc,hp];exact if_neg h2
theorem Jdg{g:Pl.Gm}{hs R:List Int}(h:Ye X g hs R=some l)(hR:∀x∈R,x≠0→4≤x∧x≤4+g.s*g.l-1):l.length≤3*hs.length+R.length∧∀p∈l,4≤p∧p≤4+g.s*g.l-1:=by
 unfold Ye at h;cases hp:JV X g 0 hs with
 | none=>rw [hp] at h; cases h
 | some q =>
  rw [hp] at h;cases h;obtain⟨h1,h2⟩:=Zc hp;refine⟨?_,fun p hp=>?_⟩
  · rw [List.length_append];have:(Q4 R).length≤R.length:=List.length_filter_le _ _;omega
  · rcases List.mem_append.1 hp with hp | hp
    · exact h2 p hp
    · have:=List.mem_filter.1 hp;exact hR p this.1 (by simpa using this.2)
structure Tkn (l:List Int) (k:Nat) (tk:List Bool):Prop where
 iff:∀j:Nat,tk[j]? = some true↔j<tk.length∧(j:Int)∈l.take k
 nd:(l.take k).Nodup
theorem Tkn.start(l:List Int)(T:Nat):Tkn l 0 (List.replicate T false):=⟨fun j=>by simp [List.getElem?_replicate],by simp⟩
theorem Xq{x:Int}(h:l[k]? = some x):l.take (k+1)=l.take k++[x]:=by rw [List.take_add_one,h]; rfl
theorem Tkn.next{tk:List Bool}(h:Tkn l k tk){P:Nat}(hP:l[k]? = some (P:Int))(hl:tk[P]? = some false):Tkn l (k+1) (tk.set P true):=by
 have hlt:=(List.getElem?_eq_some_iff.1 hl).1;have hno:¬(P:Int)∈l.take k:=fun hm=>by
  have:=(h.iff P).2 ⟨hlt,hm⟩;rw [hl] at this;cases this
 refine⟨fun j=>?_,?_⟩
 · rw [Xq hP,List.length_set]
   by_cases e:j=P
   · subst e;simp [hlt]
   · rw [List.getElem?_set_ne (Ne.symm e),h.iff j];simp only [List.mem_append,List.mem_singleton];constructor
     · exact fun ⟨a,b⟩=>⟨a,.inl b⟩
     · rintro ⟨a,b | b⟩
       · exact⟨a,b⟩
       · exact absurd (by omega) e
 · rw [Xq hP,List.nodup_append];exact⟨h.nd,by simp,fun a ha b hb e=>hno (by simp at hb; rw [←hb,←e]; exact ha)⟩
theorem Tkn.twice{tk:List Bool}(h:Tkn l k tk){P:Nat}(hP:l[k]? = some (P:Int))(hl:tk[P]? = some true):¬l.Nodup:=fun hn=>by
 have hm:=((h.iff P).1 hl).2;have h2:(l.take (k+1)).Nodup:=hn.sublist (List.take_sublist _ _);rw [Xq hP,List.nodup_append] at h2;exact h2.2.2 _ hm _ (by simp) rfl
theorem Ja4{l:List Bool}{v:Bool}(h:l[j]? = some v):(blL l)[j]? = some (.bool v):=by simp [blL,h]
theorem Jdh(l:List Bool)(j:Nat)(v:Bool):(blL l).set j (.bool v)=blL (l.set j v):=by simp [blL,List.map_set]
theorem qV{r:Rn.Rg}(hwf:r.Wf)(hg:r.g.Ok){mv:Value}(a:Ja)(hs:List Int)(hH:(hs.length:Int)=r.p)(hsm:∀x∈hs,Jo x)(hrs:∀x∈r.rs,x≠0→4≤x∧x≤4+r.s*r.l-1)(w:World)(hi:IntsAt w hv hs)(h2:IsSl ov)(h3:IsSl fv)(h4:IsSl mv){xb:Nat}(hx:Blk w xb (JM r hv ov a fv (.pointer (some ⟨b,0,none⟩)) mv))(hvr:Vars w){d:De.D}(hd:De.Dv W0 w b F d)(hLn:d.L.length≤1000000)(hX:Img d X)(ht:4+r.s*r.l≤(X.length:Int)):Calls Tryz.prog 99 #[.pointer (some ⟨xb,0,none⟩)] w fun e w'=>J5o w.heap.size (QG X r.g hs r.rs a.seg a.off r.g.cap) e w'∧Below w.heap.size w w':=by
 have H:=Rn.St.start (Stays.below w) (Below.refl _ _);have HV:=Zh hvr;have HWF:=Zh hwf;have HG:=Zh hg;have HSH:=Zh hi.sl;have HSO:=Zh h2;have HSF:=Zh h3;have HSV:=Zh h4;have HXB:=Zh hx;have HI:=Zh hi;have hp64:r.p≤64:=hg.1.2;have HLN:=Zh (show hs.length≤64 by omega);have HPL:Hid (∀w',Below w.heap.size w w'→Calls Tryz.prog 51 #[.pointer (some ⟨b,0,none⟩),.agg (JY r hv ov a fv).toArray] w' fun e w2=>J5o w'.heap.size (Ye X r.g hs r.rs) e w2∧Below w'.heap.size w' w2):=Zh fun w' hb=>ZO hwf hg a hs hH hsm w' (hi.below hb) h2 h3 (hvr.below (Nat.le_refl _) hb) (hd.below hb) hLn hX ht;have HIN:Hid (∀l,Ye X r.g hs r.rs=some l→l.length≤200∧∀p∈l,4≤p∧p≤4+r.s*r.l-1):=Zh fun l hl=>by
  have h:=Jdg hl hrs;rw [hwf.len] at h;exact⟨by omega,h.2⟩
 have har:=Pl.Gm.Ok.area0 hg;obtain⟨T,hT⟩:∃T:Nat,4+r.s*r.l=(T:Int):=⟨(4+r.s*r.l).toNat,by have:0≤r.s*r.l:=har.1; omega⟩
 have HT:=Zh hT;have HTO:Hid (∀w',Calls Tryz.prog 57 #[r.g.v] w' fun e w2=>e=.returned (.int .i64 T)∧Below w'.heap.size w' w2):=Zh fun w'=>by
  have:=Pl.Qy r.g hg w';rw [show (4+r.g.s*r.g.l:Int)=(T:Int) from hT] at this;exact this
 have HT2:Hid (T≤1024):=Zh (by have:r.s*r.l≤512:=har.2; omega);clear hwf hg hH hsm hrs hi h2 h3 h4 hx hvr hd hLn hX ht hp64 har hT;go_enter Tryz.func99,Tryz.ntmps99;go_upto_region 0 with fail;refine Zl ?_;refine tk (.slice none 0 0) ?_;refine tk (Value.nilIface) ?_;go_upto_region 1 with fail;refine Zl ?_;refine tk (.pointer (some ⟨xb,0,none⟩)) ?_;refine tk (.pointer (some ⟨xb,0,none⟩)) ?_;refine tk (.pointer (some ⟨xb,0,none⟩)) ?_;refine tk (.pointer (some ⟨xb,0,none⟩)) ?_;refine tk (.pointer (some ⟨xb,1,none⟩)) ?_;refine Jhl (Jh r.g) (HXB.below H.ex HXB.lt) (jS _ _ _ _ _ _ _) ?_;refine al J8w H ?_ (hns:=(Jh ⟨0,0,0,0⟩).ns);clear H;intro g1 w1 H;refine stO (Jh r.g) (Ob.len (Jh r.g) (Jh ⟨0,0,0,0⟩)) H 0 ?_;clear H;intro w1 H;refine Zn ?_
 by_cases hcn:r.g.cap<(Hs.cnt hs:Int)
 · have HCN:=Zh hcn;clear hcn;go_upto_region 2 with fail;refine J8 (fun wq=>Below w.heap.size w wq∧Blk wq g1 (geC r)) (by kernel_rfl) ?_;replace H:=H.drew;refine th 0 19 (.pointer (some ⟨xb,0,none⟩)) ⟨H.ex,H.blk 0 _ _ rfl⟩ ?_;refine th 1 20 (.pointer (some ⟨xb,0,none⟩)) ⟨H.ex,H.blk 0 _ _ rfl⟩ ?_;refine th 2 21 (.pointer (some ⟨xb,0,none⟩)) ⟨H.ex,H.blk 0 _ _ rfl⟩ ?_;refine th 3 22 (.pointer (some ⟨xb,16,none⟩)) ⟨H.ex,H.blk 0 _ _ rfl⟩ ?_;refine th 4 23 (hv) ⟨H.ex,H.blk 0 _ _ rfl⟩ ?_ (hy:=fun u hS=>by have hq:=(HXB.below hS.1 HXB.lt).cell (i:=16) (v:=hv) ((qU HWF.out hv ov a fv (.pointer (some ⟨b,0,none⟩)) mv)); go_simp);refine th 6 25 (.agg (geC r).toArray) ⟨H.ex,H.blk 0 _ _ rfl⟩ ?_ (hy:=fun u hS=>Kn (Jh r.g) hS.2 _ _ _ rfl rfl);refine Zo 5 fun K hK=>?_;go_simp;refine (Hs.count_any hs (by have:=HLN.out; omega) hv _ (HI.below H.ex)).mono ?_;rintro e w2 ⟨rfl,rfl⟩;refine hK _ _ ⟨H.ex,H.blk 0 _ _ rfl⟩ (nm ?_);clear hK K;refine Zo 7 fun K hK=>?_;go_simp;refine (Ca.J34 r.g HG.out _).mono ?_;rintro e w3 ⟨rfl,hb⟩;replace H:=H.call hb;clear hb;refine hK _ _ ⟨H.ex,H.blk 0 _ _ rfl⟩ (nm ?_);clear hK K;refine th 8 27 (.bool true) ⟨H.ex,H.blk 0 _ _ rfl⟩ ?_ (hy:=fun wq hS=>by go_simp; have:=HCN.out; omega);refine Zd ?_;go_upto_region 3 with fail;refine Zl ?_;refine J0 rfl fun K hK=>?_;go_simp;refine (new_err 13 rfl _ _).mono ?_;rintro e w4 ⟨T4,d4,t4,s4,rfl,hc,hb⟩;replace H:=(H.call hb).chain hc;clear hc hb;refine hK _ _ (nm ?_);clear hK K;refine tk (.slice none 0 0) ?_;refine tk (.iface T4 d4) ?_;go_wp2_with fail
   go_ret2;refine⟨?_,H.ex.1⟩;rw [zC HCN.out];exact⟨_,_,_,_,rfl,H.ex.2⟩
 have HCN:=Zh hcn;clear hcn;go_upto_region 2 with fail;refine J8 (fun wq=>Below w.heap.size w wq∧Blk wq g1 (geC r)) (by kernel_rfl) ?_;replace H:=H.drew;refine th 0 19 (.pointer (some ⟨xb,0,none⟩)) ⟨H.ex,H.blk 0 _ _ rfl⟩ ?_;refine th 1 20 (.pointer (some ⟨xb,0,none⟩)) ⟨H.ex,H.blk 0 _ _ rfl⟩ ?_;refine th 2 21 (.pointer (some ⟨xb,0,none⟩)) ⟨H.ex,H.blk 0 _ _ rfl⟩ ?_;refine th 3 22 (.pointer (some ⟨xb,16,none⟩)) ⟨H.ex,H.blk 0 _ _ rfl⟩ ?_;refine th 4 23 (hv) ⟨H.ex,H.blk 0 _ _ rfl⟩ ?_ (hy:=fun u hS=>by have hq:=(HXB.below hS.1 HXB.lt).cell (i:=16) (v:=hv) ((qU HWF.out hv ov a fv (.pointer (some ⟨b,0,none⟩)) mv)); go_simp);refine th 6 25 (.agg (geC r).toArray) ⟨H.ex,H.blk 0 _ _ rfl⟩ ?_ (hy:=fun u hS=>Kn (Jh r.g) hS.2 _ _ _ rfl rfl);refine Zo 5 fun K hK=>?_;go_simp;refine (Hs.count_any hs (by have:=HLN.out; omega) hv _ (HI.below H.ex)).mono ?_;rintro e w2 ⟨rfl,rfl⟩;refine hK _ _ ⟨H.ex,H.blk 0 _ _ rfl⟩ (nm ?_);clear hK K;refine Zo 7 fun K hK=>?_;go_simp;refine (Ca.J34 r.g HG.out _).mono ?_;rintro e w3 ⟨rfl,hb⟩;replace H:=H.call hb;clear hb;refine hK _ _ ⟨H.ex,H.blk 0 _ _ rfl⟩ (nm ?_);clear hK K;refine th 8 27 (.bool false) ⟨H.ex,H.blk 0 _ _ rfl⟩ ?_ (hy:=fun wq hS=>by go_simp; have:=HCN.out; omega);refine Zd ?_;cases hc:Ye X r.g hs r.rs
 · have HC:=Zh hc;clear hc;go_upto_region 4 with fail;refine J8 (fun wq=>Below w.heap.size w wq) (by kernel_rfl) ?_;replace H:=H.drew;refine th 0 30 (.pointer (some ⟨xb,0,none⟩)) (H.ex) ?_;refine th 1 31 (.pointer (some ⟨xb,0,none⟩)) (H.ex) ?_;refine th 2 32 (.pointer (some ⟨xb,22,none⟩)) (H.ex) ?_;refine th 3 33 ((.pointer (some ⟨b,0,none⟩))) (H.ex) ?_ (hy:=fun u hS=>by have hq:=(HXB.below hS HXB.lt).cell (i:=22) (v:=(.pointer (some ⟨b,0,none⟩))) ((J36 HWF.out hv ov a fv (.pointer (some ⟨b,0,none⟩)) mv)); go_simp);refine th 4 34 (.pointer (some ⟨xb,0,none⟩)) (H.ex) ?_;refine th 5 35 (.pointer (some ⟨xb,0,none⟩)) (H.ex) ?_;refine th 6 36 (.pointer (some ⟨xb,0,none⟩)) (H.ex) ?_;refine th 7 37 (.agg (JY r hv ov a fv).toArray) (H.ex) ?_ (hy:=fun u hS=>QR (Ko HWF.out HSH.out HSO.out HSF.out) (xU _ _ _ _ _ _ _) (HXB.below hS HXB.lt) rfl _ _ _ rfl rfl);refine Zo 8 fun K hK=>?_;go_simp;refine (HPL.out _ H.ex).mono ?_;rw [HC.out];rintro e w4 ⟨⟨T4,d4,t4,s4,rfl,hc⟩,hb⟩;replace H:=(H.call hb).chain hc;clear hc hb;refine hK _ _ (H.ex.1) (nm ?_);clear hK K;refine th 9 29 (.tuple #[.slice none 0 0,.iface T4 d4]) (H.ex.1) ?_;refine th 10 39 (.slice none 0 0) (H.ex.1) ?_;refine th 11 40 (.iface T4 d4) (H.ex.1) ?_;refine th 12 5 (.slice none 0 0) (H.ex.1) ?_;refine th 13 6 (.iface T4 d4) (H.ex.1) ?_;refine Zd ?_;go_upto_region 5 with fail;refine Zl ?_;refine tk (.iface T4 d4) ?_;refine tk (.bool true) ?_;go_upto_region 6 with fail;refine Zl ?_;refine tk (.iface T4 d4) ?_;refine tk (.slice none 0 0) ?_;refine tk (.iface T4 d4) ?_;go_wp2_with fail
   go_ret2;refine⟨?_,H.ex.1⟩;rw [zD HC.out];exact⟨_,_,_,_,rfl,H.ex.2⟩
 rename_i l
 have HC:=Zh hc;have HLL:=Zh (HIN.out l hc).1;have HPI:=Zh (HIN.out l hc).2;clear hc;go_upto_region 4 with fail;refine J8 (fun wq=>Below w.heap.size w wq) (by kernel_rfl) ?_;replace H:=H.drew;refine th 0 30 (.pointer (some ⟨xb,0,none⟩)) (H.ex) ?_;refine th 1 31 (.pointer (some ⟨xb,0,none⟩)) (H.ex) ?_;refine th 2 32 (.pointer (some ⟨xb,22,none⟩)) (H.ex) ?_;refine th 3 33 ((.pointer (some ⟨b,0,none⟩))) (H.ex) ?_ (hy:=fun u hS=>by have hq:=(HXB.below hS HXB.lt).cell (i:=22) (v:=(.pointer (some ⟨b,0,none⟩))) ((J36 HWF.out hv ov a fv (.pointer (some ⟨b,0,none⟩)) mv)); go_simp);refine th 4 34 (.pointer (some ⟨xb,0,none⟩)) (H.ex) ?_;refine th 5 35 (.pointer (some ⟨xb,0,none⟩)) (H.ex) ?_;refine th 6 36 (.pointer (some ⟨xb,0,none⟩)) (H.ex) ?_;refine th 7 37 (.agg (JY r hv ov a fv).toArray) (H.ex) ?_ (hy:=fun u hS=>QR (Ko HWF.out HSH.out HSO.out HSF.out) (xU _ _ _ _ _ _ _) (HXB.below hS HXB.lt) rfl _ _ _ rfl rfl);refine Zo 8 fun K hK=>?_;go_simp;refine (HPL.out _ H.ex).mono ?_;rw [HC.out];rintro e w4 ⟨⟨lv,rfl,ho⟩,hb⟩;replace H:=St.owns0 H hb ho;clear ho hb;refine hK _ _ (H.ex.1) (nm ?_);clear hK K;refine th 9 29 (.tuple #[lv,.nilIface]) (H.ex.1) ?_;refine th 10 39 (lv) (H.ex.1) ?_;refine th 11 40 (.nilIface) (H.ex.1) ?_;refine th 12 5 (lv) (H.ex.1) ?_;refine th 13 6 (.nilIface) (H.ex.1) ?_;refine Zd ?_;go_upto_region 5 with fail;refine Zl ?_;refine tk (.nilIface) ?_;refine tk (.bool false) ?_;go_upto_region 7 with fail;refine Zl ?_;refine ldO (Jh r.g) H 0 ?_;refine cl (HTO.out _) H ?_;clear H;intro w5 H;refine mkB HT2.out rfl rfl rfl fun gt w6 hg hA hb=>?_;replace H:=St.newg H (Jfw _) hg hA hb;clear hA hb hg;refine nm ?_;refine tk (.slice (some ⟨gt,0,none⟩) T T) ?_;refine Zn ?_;obtain⟨la,lc,hlv⟩:=H.ex.2.ints.form;generalize hn:l.length=n at hlv;have HN:=Zh hn;subst hlv;have HT0:Hid (Tkn l 0 (List.replicate T false)):=Zh (Tkn.start l T);clear hn
 go_wp2_with fail
 go_loopg [49] n (fun q i wr=>∃(k:Nat) (tb:List Bool),n-k≤q∧k≤n∧i=.int .i64 k∧tb.length=T∧Tkn l k tb∧(∀p∈l.take k,J5h r.g a.seg a.off p)∧Rn.St w.heap.size (fun z=>False∨(Value.slice la n lc).ownBlock=some z) (fun u=>Below w.heap.size w u∧OwnN u w.heap.size (.slice la n lc) l) [(g1,geC r),(gt,blL tb)] wr)
 case atStart=>exact⟨0,_,by omega,by omega,rfl,by simp,HT0.out,by simp,H⟩
 case round =>
  clear H HT0;obtain⟨k,tb,hq,hk,rfl,htl,htk,hof,H⟩:=hrel;have HQ:=Zh hq;have HTL:=Zh htl;have HTK:=Zh htk;have HO:=Zh hof;clear hq htl htk hof
  by_cases hlt:k<n
  · have hk1:(k:Int)<(n:Int):=by omega
    obtain⟨p,hp⟩:∃p,l[k]? = some p:=⟨_,List.getElem?_eq_getElem (by have:=HN.out; omega)⟩
    obtain⟨p4,pT⟩:=HPI.out p (List.mem_of_getElem? hp);obtain⟨P,rfl⟩:∃P:Nat,p=(P:Int):=⟨p.toNat,by omega⟩
    have hPT:P<T:=by have:=HT.out; omega
    obtain⟨a2,c2,e2,hcell⟩:=H.ex.2.ints;obtain⟨lb,lo,e3,c1⟩:=hcell k _ hp;injection e2 with e4 e5 e6
    subst e4;subst e3;clear e5 e6;have HP:=Zh hp;have HP4:=Zh (And.intro p4 pT);have HPT:=Zh hPT;have HKN:=Zh hlt;obtain⟨tv,htv⟩:∃v,tb[P]? = some v:=⟨_,List.getElem?_eq_getElem (by have:=HTL.out; omega)⟩
    have HTV:=Zh htv;have HOO:Hid (∀w',Calls Tryz.prog 115 #[r.g.v,.int .i64 (P:Int)] w' fun e w2=>e=.returned (.tuple #[.int .i64 (((P:Int)-4)/r.l),.int .i64 (((P:Int)-4)%r.l),.bool true])∧Below w'.heap.size w' w2):=Zh fun w'=>Rn.of_in r.g HG.out P HP4.out w';have hk2:(P:Int)<(T:Int):=by omega
    have c3:=(H.blk 1 gt _ rfl).cell (Ja4 htv);clear hcell hp p4 pT hPT hk hlt htv;cases tv
    · go_upto_region 13 with fail;clear c1 c3 hk1;refine Zl ?_;refine tk (.slice (some ⟨gt,0,none⟩) T T) ?_;refine tk (.int .i64 P) ?_;refine tk (.pointer (some ⟨gt,P,none⟩)) ?_;refine sc (v:=.bool true) H 1 P (fun t e=>by cases e) ?_ (hl:=Ja4 HTV.out);clear H;intro ws H;rw [Jdh] at H;refine Zn ?_;clear hk2;go_upto_region 14 with fail;refine Zl ?_;refine ldO (Jh r.g) H 0 ?_;refine tk (.int .i64 P) ?_;refine cl (HOO.out _) H ?_;clear H;intro w7 H;refine tk (.tuple #[.int .i64 (((P:Int)-4)/r.l),.int .i64 (((P:Int)-4)%r.l),.bool true]) ?_;refine tk (.int .i64 (((P:Int)-4)/r.l)) ?_;refine tk (.int .i64 (((P:Int)-4)%r.l)) ?_;refine tk (.bool true) ?_;refine tk (.int .i64 (((P:Int)-4)/r.l)) ?_;refine tk (.int .i64 (((P:Int)-4)%r.l)) ?_;refine tk (.bool true) ?_;refine Zn ?_
      by_cases hsg:((P:Int)-4)/r.l=a.seg
      · have HSG:=Zh hsg;clear hsg
        by_cases hof:a.off≤((P:Int)-4)%r.l
        · have HOF:=Zh hof;clear hof;go_upto_region 15 with fail;refine Zl ?_;refine tk (.int .i64 (((P:Int)-4)/r.l)) ?_;refine tk (.pointer (some ⟨xb,0,none⟩)) ?_;refine tk (.pointer (some ⟨xb,0,none⟩)) ?_;refine tk (.pointer (some ⟨xb,0,none⟩)) ?_;refine tk (.pointer (some ⟨xb,18,none⟩)) ?_;refine tk (.pointer (some ⟨xb,18,none⟩)) ?_;refine lcb (HXB.below H.ex.1 HXB.lt) (18) ?_ (hl:=(J35 HWF.out hv ov a fv (.pointer (some ⟨b,0,none⟩)) mv));refine tk (.bool true) ?_ (hr:=by go_simp; simp [HSG.out]);refine tk (.bool true) ?_;refine tk (.int .i64 (((P:Int)-4)%r.l)) ?_;refine tk (.pointer (some ⟨xb,0,none⟩)) ?_;refine tk (.pointer (some ⟨xb,0,none⟩)) ?_;refine tk (.pointer (some ⟨xb,0,none⟩)) ?_;refine tk (.pointer (some ⟨xb,18,none⟩)) ?_;refine tk (.pointer (some ⟨xb,19,none⟩)) ?_;refine lcb (HXB.below H.ex.1 HXB.lt) (19) ?_ (hl:=(Je6 HWF.out hv ov a fv (.pointer (some ⟨b,0,none⟩)) mv));refine tk (.bool true) ?_ (hr:=by go_simp; have:=HOF.out; omega);refine tk (.bool true) ?_;go_upto_region 16 with fail;refine Zl ?_;refine tk (.int .i64 P) ?_;refine J0 rfl fun K hK=>?_;go_simp;refine (Q0 P (by omega) (by have:=HPT.out; have:=HT2.out; omega) _ (HV.below (Nat.le_refl _) H.ex.1)).mono ?_;rintro e w8 ⟨sI,rfl,hsI,hb⟩;replace H:=H.call hb;clear hb;refine hK _ _ (nm ?_);clear hK K;refine tk (.string (⟨#[119,104,101,114,101,32,116,104,101,32,106,111,117,114,110,97,108,32,103,111,101,115,32,111,110,58,32,115,101,99,116,111,114,32]⟩++sI)) ?_ (hr:=by go_simp; omega);refine J0 rfl fun K hK=>?_;go_simp;refine (new_err 13 rfl _ _).mono ?_;rintro e w9 ⟨T9,d9,t9,s9,rfl,hc,hb⟩;replace H:=(H.call hb).chain hc;clear hc hb;refine hK _ _ (nm ?_);clear hK K;refine tk (.slice none 0 0) ?_;refine tk (.iface T9 d9) ?_;go_wp2_with fail
          go_ret2;refine⟨?_,H.ex.1.1⟩;rw [kZ HC.out (fun h=>h.2 _ (List.mem_of_getElem? HP.out) ⟨HSG.out,HOF.out⟩)];exact⟨_,_,_,_,rfl,H.ex.2⟩
        · have HOF:=Zh hof;clear hof;go_upto_region 15 with fail;refine Zl ?_;refine tk (.int .i64 (((P:Int)-4)/r.l)) ?_;refine tk (.pointer (some ⟨xb,0,none⟩)) ?_;refine tk (.pointer (some ⟨xb,0,none⟩)) ?_;refine tk (.pointer (some ⟨xb,0,none⟩)) ?_;refine tk (.pointer (some ⟨xb,18,none⟩)) ?_;refine tk (.pointer (some ⟨xb,18,none⟩)) ?_;refine lcb (HXB.below H.ex.1 HXB.lt) (18) ?_ (hl:=(J35 HWF.out hv ov a fv (.pointer (some ⟨b,0,none⟩)) mv));refine tk (.bool true) ?_ (hr:=by go_simp; simp [HSG.out]);refine tk (.bool true) ?_;refine tk (.int .i64 (((P:Int)-4)%r.l)) ?_;refine tk (.pointer (some ⟨xb,0,none⟩)) ?_;refine tk (.pointer (some ⟨xb,0,none⟩)) ?_;refine tk (.pointer (some ⟨xb,0,none⟩)) ?_;refine tk (.pointer (some ⟨xb,18,none⟩)) ?_;refine tk (.pointer (some ⟨xb,19,none⟩)) ?_;refine lcb (HXB.below H.ex.1 HXB.lt) (19) ?_ (hl:=(Je6 HWF.out hv ov a fv (.pointer (some ⟨b,0,none⟩)) mv));refine tk (.bool false) ?_ (hr:=by go_simp; have:=HOF.out; omega);refine tk (.bool false) ?_;refine Zn ?_;have hb1:=HKN.out;have hb2:=HLL.out;have hb3:=HN.out;rw [hb3] at hb2;clear hb3
          go_wp2_with fail
          go_roundg (n-(k+1))
          case measure=>have:=HQ.out; have:=HKN.out; omega
          case rel=>exact⟨k+1,_,by omega,by have:=HKN.out; omega,by go_num,by rw [List.length_set]; exact HTL.out,HTK.next HP.out HTV.out,fun p hp=>by
           rw [Xq HP.out] at hp
           rcases List.mem_append.1 hp with hp | hp
           · exact HO.out p hp
           · obtain rfl:=List.mem_singleton.1 hp
             exact fun c=>absurd (show a.off≤((P:Int)-4)%r.l from c.2) (by have:=HOF.out; omega),H⟩
      · have HSG:=Zh hsg;clear hsg;go_upto_region 15 with fail;refine Zl ?_;refine tk (.int .i64 (((P:Int)-4)/r.l)) ?_;refine tk (.pointer (some ⟨xb,0,none⟩)) ?_;refine tk (.pointer (some ⟨xb,0,none⟩)) ?_;refine tk (.pointer (some ⟨xb,0,none⟩)) ?_;refine tk (.pointer (some ⟨xb,18,none⟩)) ?_;refine tk (.pointer (some ⟨xb,18,none⟩)) ?_;refine lcb (HXB.below H.ex.1 HXB.lt) (18) ?_ (hl:=(J35 HWF.out hv ov a fv (.pointer (some ⟨b,0,none⟩)) mv));refine tk (.bool false) ?_ (hr:=by go_simp; simp [HSG.out]);have hb1:=HKN.out;have hb2:=HLL.out;have hb3:=HN.out;rw [hb3] at hb2;clear hb3
        go_wp2_with fail
        go_roundg (n-(k+1))
        case measure=>have:=HQ.out; have:=HKN.out; omega
        case rel=>exact⟨k+1,_,by omega,by have:=HKN.out; omega,by go_num,by rw [List.length_set]; exact HTL.out,HTK.next HP.out HTV.out,fun p hp=>by
         rw [Xq HP.out] at hp
         rcases List.mem_append.1 hp with hp | hp
         · exact HO.out p hp
         · obtain rfl:=List.mem_singleton.1 hp
           exact fun c=>HSG.out c.1,H⟩
    · go_upto_region 12 with fail;clear c1 c3 hk1 hk2;go_upto_region 12 with fail;refine Zl ?_;refine tk (.int .i64 P) ?_;refine J0 rfl fun K hK=>?_;go_simp;refine (Q0 P (by omega) (by have:=HPT.out; have:=HT2.out; omega) _ (HV.below (Nat.le_refl _) H.ex.1)).mono ?_;rintro e w7 ⟨sI,rfl,hsI,hb⟩;replace H:=H.call hb;clear hb;refine hK _ _ (nm ?_);clear hK K;refine tk (.string (⟨#[116,119,105,99,101,58,32,115,101,99,116,111,114,32]⟩++sI)) ?_ (hr:=by go_simp; omega);refine J0 rfl fun K hK=>?_;go_simp;refine (new_err 13 rfl _ _).mono ?_;rintro e w8 ⟨T8,d8,t8,s8,rfl,hc,hb⟩;replace H:=(H.call hb).chain hc;clear hc hb;refine hK _ _ (nm ?_);clear hK K;refine tk (.slice none 0 0) ?_;refine tk (.iface T8 d8) ?_;go_wp2_with fail
      go_ret2;refine⟨?_,H.ex.1.1⟩;rw [kZ HC.out (fun h=>HTK.twice HP.out HTV.out h.1)];exact⟨_,_,_,_,rfl,H.ex.2⟩
  · obtain rfl:k=n:=by omega
    have hta:l.take k=l:=List.take_of_length_le (Nat.le_of_eq HN.out);have HR:=Zh (kY (cap:=r.g.cap) (seg:=a.seg) (off:=a.off) (by have:=HCN.out; omega) HC.out ⟨hta ▸ HTK.nd,fun p hp=>HO.out p (by rw [hta]; exact hp)⟩);have hk1:¬(k:Int)<(k:Int):=Int.lt_irrefl _;clear HTK HO hta hk hlt;go_upto_region 18 with fail;clear hk1;go_upto_region 18 with fail;refine Zl ?_;refine tk (.slice la k lc) ?_;refine tk (.slice la k lc) ?_;refine tk (Value.nilIface) ?_;go_wp2_with fail
    go_ret2;refine⟨?_,H.ex.1⟩;rw [HR.out];exact⟨_,rfl,H.ex.2⟩
open Go.RowKit Rn
variable {A:Nat→Prop} {E:World→Prop} {N k n:Nat} {V:List (Nat×List Value)} {fv hv ov sv:Value} {l:List Int} {w w':World}
theorem St.intsF(h:Rn.St N A E V w)(hb:Below w.heap.size w w')(hy:IntsAt w' sv l)(hf:∀k,sv.ownBlock=some k→w.heap.size≤k):Rn.St N (fun k=>A k∨(l≠[]∧sv.ownBlock=some k)) (fun u=>E u∧IntsAt u sv l) V w':=by
 have k:=h.call hb;exact⟨k.sz,k.blk,k.ge,k.nd,⟨k.ex,hy⟩,h.st.both Stays.ints,fun i g L hi ho=>ho.elim (h.av i g L hi) fun ho=>absurd (h.blk i g L hi).lt (Nat.not_lt.2 (hf g ho.2)),h.ns⟩
def xV(p k n:Nat):List Value:=Mp.row (Mp.mk (zeros p)) k++(List.replicate (n-k) (Bk.none.cells Mp.Kz)).flatten
theorem Ja5(p k:Nat):Mp.hds (zeros p) k=zeros 8:=by
 have e:∀i,(zeros p).getD i 0=0:=fun i=>by
  rw [List.getD_eq_getElem?_getD];cases h:(zeros p)[i]? with
  | none=>rfl
  | some x=>rw [List.eq_of_mem_replicate (List.mem_of_getElem? h)]; rfl
 unfold Mp.hds;simp only [e];rfl
theorem Jdi(p k:Nat):Mp.mk (zeros p) k=⟨3,k,zeros 32,0,[],0,zeros 8⟩:=by unfold Mp.mk; rw [Ja5]
theorem Ja6(n:Nat):Mp.row (fun _=>Bk.none) n=(List.replicate n (Bk.none.cells Mp.Kz)).flatten:=by
 unfold Mp.row
 induction n with
 | zero=>rfl
 | succ n ih=>rw [List.range_succ,List.flatMap_append,ih,List.replicate_succ']; simp
theorem J5p(p n:Nat):Mp.row (fun _=>Bk.none) n=xV p 0 n:=by rw [Ja6]; rfl
theorem zE(p n:Nat):xV p n n=Mp.row (Mp.mk (zeros p)) n:=by simp [xV]
theorem Ja7{p:Nat}(h:k<n):xV p k n=Mp.row (Mp.mk (zeros p)) k++(Bk.none.cells Mp.Kz++(List.replicate (n-(k+1)) (Bk.none.cells Mp.Kz)).flatten):=by
 unfold xV;rw [show n-k=(n-(k+1))+1 by omega,List.replicate_succ,List.flatten_cons]
theorem Ja8{p:Nat}:xV p (k+1) n=Mp.row (Mp.mk (zeros p)) k++((Mp.mk (zeros p) k).cells Mp.Kz++(List.replicate (n-(k+1)) (Bk.none.cells Mp.Kz)).flatten):=by
 unfold xV;rw [Mp.kM,List.append_assoc]
theorem J1w(p:Nat)(h:k<1000):(Mp.mk (zeros p) k).Wf:=Mp.J9j (fun x hx=>by rw [List.eq_of_mem_replicate hx]; exact Kb) h
theorem xW(p k n:Nat)(hk:k<1000):∀v∈xV p k n,∀t,v≠.string t:=fun v hv=>by
 rcases List.mem_append.1 hv with hv | hv
 · obtain⟨i,hi,hv⟩:=List.mem_flatMap.1 hv;have:=List.mem_range.1 hi;exact (Jm (J1w p (by omega)) Jl).ns v hv
 · obtain⟨l,hl,hv⟩:=List.mem_flatten.1 hv;rw [List.eq_of_mem_replicate hl] at hv;exact (Jm none_wf Jl).ns v hv
theorem Jdj(p k:Nat):(Mp.row (Mp.mk (zeros p)) k).length=k*45:=Mp.Zb (fun i=>⟨rfl,Mp.Y6 _ _⟩) k
theorem zF{r:Rn.Rg}(hwf:r.Wf)(hg:r.g.Ok)(hz:r.rs=zeros 8)(p n:Nat)(hn:r.g.maps=n)(dq:Option Addr)(w:World):Calls Tryz.prog 97 #[.pointer dq,.agg r.cells.toArray] w fun e w'=>∃q,e=.returned (.tuple #[.slice (some ⟨q,0,none⟩) n n,.nilIface])∧Blk w' q (Mp.row (Mp.mk (zeros p)) n)∧w.heap.size≤q∧Below w.heap.size w w':=by
 have H:=Rn.St.start (Stays.below w) (Below.refl _ _);have HWF:=Zh hwf;have HG:=Zh hg;have hm:=hg.maps;have HN8:Hid (n≤8):=Zh (by omega);have HMA:Hid (∀w',Calls Tryz.prog 82 #[r.g.v] w' fun e w2=>e=.returned (.int .i64 n)∧Below w'.heap.size w' w2):=Zh fun w'=>hn ▸ Rn.maps_yes r.g hg w';have HRT:Hid (∀k:Nat,k<8→r.cells[8+k]? = some (.int .i64 0)):=Zh fun k hk=>Rn.Rg.root_cell (by rw [hz]; show (List.replicate 8 (0:Int))[k]? = _; rw [List.getElem?_replicate,if_pos hk]);clear hwf hg hz hn hm;go_enter Tryz.func97,Tryz.ntmps97;go_upto_region 0 with fail;refine Zl ?_;refine bx H ?_ (hns:=(Xo HWF.out).ns);clear H;intro g1 w1 H;refine tk (.slice none 0 0) ?_;refine tk (Value.nilIface) ?_;go_upto_region 1 with fail;refine Zl ?_;refine tk (.pointer (some ⟨g1,1,none⟩)) ?_;refine ldP (Jh r.g) H 0 (Jde _) ?_;refine cl (HMA.out _) H ?_;clear H;intro w2 H;refine mkR (by have:=HN8.out; omega) rfl rfl rfl fun gm w3 hg hA hb=>?_;rw [J5p p] at hA;replace H:=St.newg H (xW p 0 n (by omega)) hg hA hb;have HGE:=Zh (Nat.le_of_eq hg);clear hA hb hg;refine nm ?_;refine tk (.slice (some ⟨gm,0,none⟩) n n) ?_;go_wp2_with fail
 go_loopg [16] n (fun q i wr=>∃k:Nat,n-k≤q∧k≤n∧i=.int .i64 k∧Rn.St w.heap.size (fun _=>False) (fun u=>Below w.heap.size w u) [(g1,r.cells),(gm,xV p k n)] wr)
 case atStart=>exact⟨0,by omega,by omega,rfl,H⟩
 case round =>
  clear H;obtain⟨k,hq,hk,rfl,H⟩:=hrel;have HQ:=Zh hq;clear hq
  by_cases hlt:k<n
  · have hk1:(k:Int)<(n:Int):=by omega
    have HKN:=Zh hlt;have hk8:(k:Int)<8:=by have:=HN8.out; omega
    have hkn8:k<8:=by have:=HN8.out; omega
    have c1:=(H.blk 0 g1 _ rfl).cell (HRT.out k hkn8);clear hk hlt;go_upto_region 6 with fail;clear c1 hk8 hkn8;go_upto_region 6 with fail;refine Zl ?_;refine tk (.slice (some ⟨gm,0,none⟩) n n) ?_;refine tk (.int .i64 k) ?_;refine tk (.int .i64 k) ?_;refine tk (.agg ((Mp.mk (zeros p) k).cells (.slice none 0 0)).toArray) ?_ (hr:=by rw [Jdi]; exact Jc _ _ _ _ 82 _ rfl #[(0,.int .i64 3),(1,.int .i64 k)] (by simp [go_sem]) _ (Yo 3 k _));refine tk (.pointer (some ⟨gm,k*45,none⟩)) ?_;refine stP (Jm (J1w p (by have:=HKN.out; have:=HN8.out; omega)) Jl) (Ob.len (Jm (J1w p (by have:=HKN.out; have:=HN8.out; omega)) Jl) (Jm none_wf Jl)) (xW p (k+1) n (by have:=HKN.out; have:=HN8.out; omega)) H 1 (Ja7 HKN.out) Ja8 ?_ (hc:=Jdj p k);clear H;intro w4 H;refine Zn ?_;have hb1:=HKN.out;have hb2:=HN8.out
    go_wp2_with fail
    go_roundg (n-(k+1))
    case measure=>have:=HQ.out; have:=HKN.out; omega
    case rel=>exact⟨k+1,by omega,by have:=HKN.out; omega,by go_num,H⟩
  · obtain rfl:k=n:=by omega
    have hk1:¬(k:Int)<(k:Int):=Int.lt_irrefl _;clear hk hlt;go_upto_region 12 with fail;clear hk1;go_upto_region 12 with fail;refine Zl ?_;refine tk (.slice (some ⟨gm,0,none⟩) k k) ?_;refine tk (.slice (some ⟨gm,0,none⟩) k k) ?_;refine tk (Value.nilIface) ?_;go_wp2_with fail
    go_ret2;exact⟨gm,rfl,(zE p k) ▸ H.blk 1 gm _ rfl,H.ge 1 gm _ rfl,H.ex⟩
theorem J5q{r:Rn.Rg}(hwf:r.Wf){dv:Value}(a:Ja)(h1:IsSl hv)(h2:IsSl ov)(h3:IsSl fv)(h4:Jh2 dv)(l:List Int)(hl:Mp.J32 r.g l)(hsm:∀x∈l,Jo x)(n:Nat)(hn:r.g.maps=n)(xb gm:Nat)(hne:gm≠xb)(w:World)(hx:Blk w xb (JM r hv ov a fv dv (.slice (some ⟨gm,0,none⟩) n n)))(hm:Blk w gm (Mp.row (Mp.mk l) n)):Calls Tryz.prog 98 #[.pointer (some ⟨xb,0,none⟩)] w fun e w'=>∃sv,e=.returned .nilIface∧Blk w' xb (JM r hv sv a fv dv (.slice (some ⟨gm,0,none⟩) n n))∧Only (fun k=>k=xb) w w'∧IntsAt w' sv l∧(∀k,sv.ownBlock=some k→w.heap.size≤k):=by
 have HSM:Hid (IsSl (.slice (some ⟨gm,0,none⟩) n n)):=Zh ⟨_,_,_,rfl⟩;have HWF:=Zh hwf;have HSH:=Zh h1;have HSO:=Zh h2;have HSF:=Zh h3;have HPT:=Zh h4;have H:=St.own hx (YE hwf h1 h2 h3 h4 HSM.out).ns;have HJN:Hid (∀w',Only (fun k=>k=xb) w w'→Calls Tryz.prog 124 #[r.g.v,.slice (some ⟨gm,0,none⟩) n n] w' fun e w2=>∃sv,e=.returned (.tuple #[sv,.int .i64 0])∧Mp.J1u w' w2 sv l∧Below w'.heap.size w' w2):=Zh fun w' ho=>Mp.Ja3 r.g l hl hsm n hn gm w' (hm.only ho hne);clear hwf h1 h2 h3 h4 hl hsm hn hx hm;go_enter Tryz.func98,Tryz.ntmps98;go_upto_region 0 with fail;refine Zl ?_;refine tk (Value.nilIface) ?_;go_upto_region 1 with fail;refine J8 (fun wq=>Blk wq xb (JM r hv ov a fv dv (.slice (some ⟨gm,0,none⟩) n n))) (by kernel_rfl) ?_;replace H:=H.drew;refine th 0 6 (.pointer (some ⟨xb,0,none⟩)) (H.blk 0 _ _ rfl) ?_;refine th 1 7 (.pointer (some ⟨xb,0,none⟩)) (H.blk 0 _ _ rfl) ?_;refine th 2 8 (.pointer (some ⟨xb,0,none⟩)) (H.blk 0 _ _ rfl) ?_;refine th 3 9 (.pointer (some ⟨xb,0,none⟩)) (H.blk 0 _ _ rfl) ?_;refine th 4 10 (.pointer (some ⟨xb,1,none⟩)) (H.blk 0 _ _ rfl) ?_;refine th 5 11 (.agg (geC r).toArray) (H.blk 0 _ _ rfl) ?_ (hy:=fun u hS=>QR (Jh r.g) (jS _ _ _ _ _ _ _) hS rfl _ _ _ rfl rfl);refine th 6 12 (.pointer (some ⟨xb,0,none⟩)) (H.blk 0 _ _ rfl) ?_;refine th 7 13 (.pointer (some ⟨xb,0,none⟩)) (H.blk 0 _ _ rfl) ?_;refine th 8 14 (.pointer (some ⟨xb,23,none⟩)) (H.blk 0 _ _ rfl) ?_;refine th 9 15 ((.slice (some ⟨gm,0,none⟩) n n)) (H.blk 0 _ _ rfl) ?_ (hy:=fun u hS=>by have hq:=(hS).cell (i:=23) (v:=(.slice (some ⟨gm,0,none⟩) n n)) ((Je7 HWF.out hv ov a fv dv (.slice (some ⟨gm,0,none⟩) n n))); go_simp);refine Zo 10 fun K hK=>?_;go_simp;refine (HJN.out _ H.ex).mono ?_;rintro e w1 ⟨sv,rfl,hf,hb⟩;obtain⟨sa,sn,scp,rfl⟩:=hf.1.sl;have HSV:=Zh hf.1.sl;have HFR:=Zh fun k hk=>Nat.le_trans (H.ex.size) (hf.2 k hk);replace H:=St.intsF H hb hf.1 hf.2;clear hf hb;refine hK _ _ (H.blk 0 _ _ rfl) (nm ?_);clear hK K;refine th 11 5 (.tuple #[(.slice sa sn scp),.int .i64 0]) (H.blk 0 _ _ rfl) ?_;refine th 12 17 ((.slice sa sn scp)) (H.blk 0 _ _ rfl) ?_;refine th 13 18 (.int .i64 0) (H.blk 0 _ _ rfl) ?_;refine th 14 3 ((.slice sa sn scp)) (H.blk 0 _ _ rfl) ?_;refine th 15 4 (.int .i64 0) (H.blk 0 _ _ rfl) ?_;refine Zd ?_;go_upto_region 2 with fail;refine Zl ?_;refine tk (.int .i64 0) ?_;refine tk (.bool false) ?_;go_upto_region 4 with fail;refine Zl ?_;refine tk (.pointer (some ⟨xb,0,none⟩)) ?_;refine tk ((.slice sa sn scp)) ?_;refine tk (.pointer (some ⟨xb,0,none⟩)) ?_;refine tk (.pointer (some ⟨xb,0,none⟩)) ?_;refine tk (.pointer (some ⟨xb,17,none⟩)) ?_;refine sc H 0 (17) HSV.ns ?_ (hl:=(Je5 HWF.out hv ov a fv dv (.slice (some ⟨gm,0,none⟩) n n)));clear H;intro w2 H;rw [J5k HWF.out] at H;go_upto_region 5 with fail;refine Zl ?_;refine tk (Value.nilIface) ?_;go_wp2_with fail
 go_ret;exact⟨_,rfl,H.blk 0 _ _ rfl,H.ex.1,H.ex.2,HFR.out⟩
end Go.Proofs.YtdbfmikeaoaebaaGreatDoor
