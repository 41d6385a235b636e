/- Steps. -/
import Derived.Test.YtdbfmikeaoaebaaGreatDoorDaj
import Derived.BigQuiet
import Derived.Deep.AppendLies
import Derived.Deep.Cut
import Derived.Deep.CutRange
import Derived.Deep.DeepFit
import Derived.Deep.DeepMust
import Derived.Deep.LoopGhost
import Derived.Deep.QuietTactic
import Derived.Deep.Upon
import Derived.Laws.CopyRow
import Derived.Laws.Rows
import Derived.Laws.StructEq
import Derived.Lib.AppendZeros
import Derived.Lib.EndianBits
import Derived.Lib.Hide
import Derived.OrdersHeld
import Derived.RegionTactic
import Derived.WalkKit
import Derived.WalkLawsBesides
import Derived.WalkSpells
import Derived.Lib.ItoaLen
import Derived.Great.BuildSlice
import Derived.Great.FillDense
import Derived.Maps.AppendAt
set_option linter.unusedSimpArgs false
set_option linter.unusedVariables false
set_option maxRecDepth 100000
set_option maxHeartbeats 4000000
namespace Go.Proofs.YtdbfmikeaoaebaaGreatDoor
open Go.RowKit
variable {B cap g i k n:Nat} {l:List Int} {sv tv:Value} {w w':World}
namespace Us
open Go.RowKit Pl
open Go.RowKit
open Go.RowKit
def Own(w:World)(B:Nat)(sv:Value)(l:List Int):Prop:=w.ownsRow B 3 1 sv l.length (Js l)
theorem Own.nil(w:World)(B:Nat):Own w B (.slice none 0 0) []:=World.ownsRow_nil w B 3 1
theorem Own.ints(h:Own w B sv l):IntsAt w sv l:=by
 rcases h.2 with ⟨rfl,h0⟩|⟨g,cap,cur,rfl,hb,hg,hn,hm,hs,ht⟩
 · have:l=[]:=List.eq_nil_of_length_eq_zero h0;subst this;exact IntsAt.nil _ _ _
 · refine⟨_,cap,rfl,fun i x hx=>⟨g,0,rfl,?_⟩⟩;rw [Nat.zero_add,World.ownsRow.cellAt h i (by have:=(List.getElem?_eq_some_iff.1 hx).1;omega),List.getElem?_map,hx];rfl
theorem Own.lt(h:Own w B sv l):∀k,sv.ownBlock=some k→B≤k∧k<w.heap.size:=World.ownsRow.lt h
theorem Own.below(h:Own w B sv l)(hb:Below w.heap.size w w'):Own w' B sv l:=by
 refine⟨h.1,?_⟩;rcases h.2 with hn|⟨g,cap,cur,e,hB,hg,r⟩
 · exact .inl hn
 · exact .inr ⟨g,cap,cur,e,hB,(hb.block g (Array.getElem?_eq_some_iff.1 hg).1).trans hg,r⟩
theorem Own.mono{C:Nat}(h:Own w B sv l)(hc:C≤B):Own w C sv l:=World.ownsRow.mono h hc
theorem app_own{m:List Int}(h:Own w B sv l)(hB:B≤w.heap.size)(k:IntsAt w tv m)(hlen:l.length+m.length≤1000000)(ty:TypeId) :
 ∃sv' w',(Builtin.append_ #[41,41] ty #[sv,tv]).run Tryz.prog w=.ok sv' w'∧Own w' B sv' (l++m)∧w.grownBy w' sv.ownBlock:=by
 obtain⟨i,hi,hz,hs,hby⟩:=J4f;cases m with
 | nil =>
  have hsl:∃a c,sv=.slice a l.length c∧l.length≤c:=by
   rcases h.2 with ⟨e,h0⟩|⟨g,cap,cur,e,_,_,hn,_⟩
   · exact⟨none,0,by rw [e,h0],by omega⟩
   · exact⟨_,cap,e,hn⟩
  obtain⟨a,c,rfl,hle⟩:=hsl;obtain⟨ta,tc,rfl,_⟩:=k;refine⟨_,w,run_append_nothing w 41 41 ty 3 i Tryz.underlying41 hi a l.length c hle _ ⟨.inl ⟨3,Tryz.underlying41⟩,fun _=>by rfl,?_,?_,by simp,fun u hu=>by cases hu⟩,by rw [List.append_nil];exact h,⟨rfl,rfl,rfl,Nat.le_refl _,fun _ _ _=>rfl⟩⟩
  · cases ta <;> simp [Builtin.firstCells,hs,loadCells,loadCellsFrom]
  · cases ta <;> simp [Builtin.firstCells,hs,loadCells,loadCellsFrom]
 | cons x m =>
  obtain⟨b,o,c,rfl,hc⟩:=k.has (by simp);obtain⟨v',w',hr,h2,h3,_⟩:=run_append_own (P:=Tryz.prog) w B 41 ty 3 i (.int .i64 0) 1 8 Tryz.underlying41 hi hz hs hby rfl (by decide) sv l.length (Js l) h ⟨b,o,none⟩ (x::m).length c (Js (x::m)) (by simp) (fun j u hu=>by
   rw [List.getElem?_map] at hu
   cases hz:(x::m)[j]? with
   | none=>simp [hz] at hu
   | some z =>
    simp [hz] at hu
    subst hu
    rw [show (⟨b,o,none⟩:Addr).add j=⟨b,o+j,none⟩ by unfold Addr.add;split <;> simp_all]
    exact hc j z hz) (fun u hu=>by obtain⟨z,_,rfl⟩:=List.mem_map.1 hu;rfl) (by simp only [maxLen];omega) (by omega) hB
  refine⟨v',w',hr,?_,h3⟩;unfold Own;rw [List.length_append,show Js (l++x::m)=Js l++Js (x::m) by simp];exact h2
section
variable {ops:Array Oper} {rest:List Oper} {dst:Option Tmp} {x y:Operand} {t2:TypeId} {pos:String} {after:Array Edge} {guard:Option (Nat×Bool)} {a:Act} {w:World} {Q:Exit→Act→World→Prop}
theorem app_L{m:List Int}(h:Own w B sv l)(hB:B≤w.heap.size)(k:IntsAt w tv m)(hlen:l.length+m.length≤1000000)(hx:a.eval x=sv)(hy:a.eval y=tv)(hw:Region.wanted ⟨dst,.call { callee:=.builtin .append,args:=#[x,y],argTypes:=#[41,41] },t2,pos,after,guard⟩ (yielded ops a.tmps)=true)(hh:∀sv' w',Own w' B sv' (l++m)→Below B w w'→wpList Tryz.prog ops Q rest (a.put dst sv') w'):wpList Tryz.prog ops Q (⟨dst,.call { callee:=.builtin .append,args:=#[x,y],argTypes:=#[41,41] },t2,pos,after,guard⟩::rest) a w:=by
 obtain⟨sv',w',hr,ho,hg⟩:=app_own h hB k hlen t2;exact Je sv' w' hw (KR a.eval _ x y 41 41 rfl sv tv sv' hx hy hr) (hh sv' w' ho (K4 hg hB fun k hk=>(h.lt k hk).1))
end
theorem Own.lit(w:World)(B:Nat)(hB:B≤w.heap.size)(l:List Int)(hl:l.length≤1000000)(cs:Array Value)(hc:cs=(Js l).toArray):Own (w.alloc (.cells cs 3)) B (.slice (some ⟨w.heap.size,0,none⟩) l.length l.length) l:=by
 subst hc;exact⟨by simp,.inr ⟨w.heap.size,l.length,_,rfl,hB,heap_alloc_new w _,Nat.le_refl _,by simp only [maxLen];omega,by simp,List.take_of_length_le (by simp)⟩⟩
theorem Own.set(h:Own w B (.slice (some ⟨g,0,none⟩) n cap) l)(i:Nat)(v:Int)(hi:i<l.length):Own (w.setCell ⟨g,i,none⟩ (.int .i64 v)) B (.slice (some ⟨g,0,none⟩) n cap) (l.set i v):=by
 rcases h.2 with ⟨e,_⟩|⟨g',cap',cur,e,hb,hg,hn,hm,hs,ht⟩
 · cases e
 · cases e;refine⟨by simp,.inr ⟨g,cap,cur.setIfInBounds i (.int .i64 v),by rw [List.length_set],hb,?_,by rw [List.length_set];exact hn,hm,by simpa using hs,?_⟩⟩
   · rw [heap_setCell_same w g i cur 3 (.int .i64 v) hg]
   · have e2:(cur.setIfInBounds i (.int .i64 v)).toList=cur.toList.set i (.int .i64 v):=by simp
     rw [e2,List.length_set,List.take_set,ht];simp
open Go.RowKit
instance (g:Gm):Decidable g.Ok:=by unfold Gm.Ok;infer_instance
theorem gbox_below(g:Gm)(w:World):Below w.heap.size w (g.box w):=(Below.refl _ _).alloc (Nat.le_refl _) _
open Go.RowKit
def _root_.Go.Proofs.YtdbfmikeaoaebaaGreatDoor.Pl.Gm.In(g:Gm)(n:Int):Prop:=4≤n∧n≤4+g.s*g.l-1
instance (g:Gm) (n:Int):Decidable (g.In n):=by unfold Gm.In;infer_instance
def _root_.Go.Proofs.YtdbfmikeaoaebaaGreatDoor.Pl.Gm.seg(g:Gm)(n:Int):Nat:=((n-4)/g.l).toNat
def _root_.Go.Proofs.YtdbfmikeaoaebaaGreatDoor.Pl.Gm.segs(g:Gm):Nat:=g.s.toNat
theorem _root_.Go.Proofs.YtdbfmikeaoaebaaGreatDoor.Pl.Gm.Ok.segs{g:Gm}(h:g.Ok):g.s=(g.segs:Int)∧6≤g.segs∧g.segs≤16:=by
 obtain⟨_,⟨h3,h4⟩,_,_⟩:=h;unfold Gm.segs;omega
theorem _root_.Go.Proofs.YtdbfmikeaoaebaaGreatDoor.Pl.Gm.Ok.seg{g:Gm}(h:g.Ok){n:Int}(hn:g.In n):(n-4)/g.l=(g.seg n:Int)∧g.seg n<g.segs:=by
 obtain⟨hs,_⟩:=h.segs;obtain⟨_,⟨h3,h4⟩,⟨h5,h6⟩,_⟩:=h;obtain⟨n0,n1⟩:=hn;have a:0≤(n-4)/g.l:=Int.ediv_nonneg (by omega) (by omega);have b:(n-4)/g.l<g.s:=Int.ediv_lt_of_lt_mul (by omega) (by omega);unfold Gm.seg;omega
def YX(n:Nat):List Int:=List.replicate n 0
theorem take_snoc{α:Type}{l:List α}{x:α}(h:l[k]? = some x):l.take (k+1)=l.take k++[x]:=by
 rw [List.take_add_one,h];rfl
def jt(g:Gm)(l:List Int)(s:Nat):Nat:=l.countP fun n=>decide (g.In n)&&(g.seg n == s)
theorem jL(g:Gm)(a b:List Int)(s:Nat):jt g (a++b) s=jt g a s+jt g b s:=by simp [jt,List.countP_append]
theorem Je9(g:Gm)(l:List Int)(s:Nat):jt g l s≤l.length:=List.countP_le_length
theorem zH(g:Gm)(n:Int)(s:Nat):jt g [n] s=if g.In n∧g.seg n=s then 1 else 0:=by
 by_cases h:g.In n <;> by_cases k:g.seg n=s <;> simp [jt,h,k]
def Qy(g:Gm)(l:List Int):List Int:=(List.range g.segs).map fun s=>(jt g l s:Int)
theorem KT(g:Gm)(l:List Int):(Qy g l).length=g.segs:=by simp [Qy]
theorem YS{g:Gm}{s:Nat}(h:s<g.segs):(Qy g l)[s]? = some (jt g l s:Int):=by simp [Qy,h]
theorem J29(g:Gm):Qy g []=YX g.segs:=by
 refine List.ext_getElem? fun i=>?_
 by_cases h:i<g.segs
 · rw [YS h];simp [YX,jt,h]
 · rw [List.getElem?_eq_none (by rw [KT];omega),List.getElem?_eq_none (by simp [YX];omega)]
theorem J68{g:Gm}{n:Int}(hk:l[k]? = some n)(hn:¬g.In n):Qy g (l.take (k+1))=Qy g (l.take k):=by
 unfold Qy;rw [take_snoc hk];refine List.map_congr_left fun s _=>?_;rw [jL,zH,if_neg fun h=>hn h.1];rfl
theorem J2a{g:Gm}{n:Int}(hk:l[k]? = some n)(hn:g.In n):Qy g (l.take (k+1))=(Qy g (l.take k)).set (g.seg n) ((jt g (l.take k) (g.seg n):Nat)+1:Int):=by
 refine List.ext_getElem? fun i=>?_
 by_cases h:i<g.segs
 · rw [YS h,List.getElem?_set,KT,take_snoc hk,jL,zH]
   by_cases e:g.seg n=i
   · rw [if_pos ⟨hn,e⟩,if_pos e,if_pos (by omega),e];rfl
   · rw [if_neg fun h=>e h.2,if_neg e,YS h];rfl
 · rw [List.getElem?_eq_none (by rw [KT];omega),List.getElem?_eq_none (by rw [List.length_set,KT];omega)]
def cts(g:Gm)(l:List Int):List Int:=if g.Ok then Qy g l else []
theorem Jea{g:Gm}(h:g.Ok)(l:List Int):cts g l=Qy g l:=if_pos h
theorem Jgt{g:Gm}(h:¬g.Ok)(l:List Int):cts g l=[]:=if_neg h
def XH(l:List Int)(h:Int)(n:Nat):List Int:=((List.range n).filter fun i=>l.getD i 1 == 0&&decide ((i:Int)≠h)).map fun i:Nat=>(i:Int)
def Jao(l:List Int)(h:Int):List Int:=XH l h l.length
theorem J2b{h:Int}(hk:l[k]? = some 0)(hh:(k:Int)≠h):XH l h (k+1)=XH l h k++[(k:Int)]:=by
 simp [XH,List.range_succ,List.filter_append,hk,hh]
theorem J69{h:Int}{x:Int}(hk:l[k]? = some x)(hx:¬(x=0∧(k:Int)≠h)):XH l h (k+1)=XH l h k:=by
 simp only [XH,List.range_succ,List.filter_append,List.map_append];have e:(l.getD k 1 == 0&&decide ((k:Int)≠h))=false:=by
  rw [List.getD_eq_getElem?_getD,hk]
  by_cases a:x=0
  · have b:(k:Int)=h:=Classical.byContradiction fun b=>hx ⟨a,b⟩;simp [a,b]
  · simp [a]
 simp only [List.filter_cons,e,Bool.false_eq_true,if_false,List.filter_nil,List.map_nil,List.append_nil]
theorem J6a(l:List Int)(h:Int)(n:Nat):(XH l h n).length≤n:=by
 simpa [XH] using Nat.le_trans (List.length_filter_le _ _) (by simp)
open Go.RowKit
theorem Own.cell(h:Own w B (.slice (some ⟨g,0,none⟩) n cap) l){x:Int}(hx:l[i]? = some x):w.cell? ⟨g,i,none⟩=some (.int .i64 x)∧w.frozen? ⟨g,i,none⟩=false:=by
 have h0:=h;rcases h.2 with ⟨e,_⟩|⟨g',cap',cur,e,hb,hg,hn,hm,hs,ht⟩
 · cases e
 · cases e;refine⟨?_,frozen_of_row w g i _ _ hg⟩;have hi:=(List.getElem?_eq_some_iff.1 hx).1;rw [World.ownsRow.cellAt h0 i (by omega),List.getElem?_map,hx];rfl
theorem J6b(n:Int)(b:Bool)(w:World):Calls Tryz.prog 127 #[.int .i64 0,.int .i64 n,.bool b] w fun e w'=>e=.returned (.bool (!(decide (n=0)&&!b)))∧w=w':=by
 cases b with
 | true =>
  go_enter Tryz.func127,Tryz.ntmps127
  go_wp2_with fail
  go_ret;exact⟨J6 (by simp),rfl⟩
 | false =>
  rcases Int.lt_trichotomy n 0 with h|h|h
  · have h1:¬0<n:=by omega
    have H:Hid (n≠0):=Zh (by omega);go_enter Tryz.func127,Tryz.ntmps127
    go_wp2_with fail
    go_ret;exact⟨J6 (by simp [H.out]),rfl⟩
  · subst h;go_enter Tryz.func127,Tryz.ntmps127
    go_wp2_with fail
    go_ret;exact⟨J6 (by simp),rfl⟩
  · have H:Hid (n≠0):=Zh (by omega);go_enter Tryz.func127,Tryz.ntmps127
    go_wp2_with fail
    go_ret;exact⟨J6 (by simp [H.out]),rfl⟩
theorem Jap(l:List Int)(hn:l.length≤1000)(h:Int)(sv:Value)(w:World)(hs:IntsAt w sv l) :
 Calls Tryz.prog 100 #[sv,.int .i64 h] w fun e w'=>∃rv,e=.returned rv∧Own w' w.heap.size rv (Jao l h)∧Below w.heap.size w w':=by
 obtain⟨a,cap,rfl,hc⟩:=hs;have HL:=Zh hc;have HP:=Zh fun n b W=>J6b n b W;clear hc;unfold Jao;go_enter Tryz.func100,Tryz.ntmps100
 go_wp2_with fail
 go_loopg [10,5] l.length (fun q i s wr=>∃(k:Nat) (ov:Value),ov=s∧l.length-k≤q∧k≤l.length∧i=.int .i64 k∧Own wr w.heap.size ov (XH l h k)∧Below w.heap.size w wr)
 case atStart=>exact⟨0,_,rfl,by omega,by omega,rfl,Own.nil _ _,Below.refl _ _⟩
 case round =>
  obtain⟨k,ov,rfl,hq,hk,rfl,ho,hb⟩:=hrel;have HO:=Zh ho;have HW:=Zh hb;clear ho hb
  by_cases hlt:k<l.length
  · have hk1:(k:Int)<(l.length:Int):=by omega
    have hlk:l[k]? = some l[k]:=by simp [hlt]
    obtain⟨b,o,rfl,c1⟩:=HL.out k l[k] hlk;have d1:=(HW.cell (block_lt_of_cell c1)).trans c1;have HY:=Zh (J2b (l:=l) (h:=h) (k:=k));have HZ:=Zh (J69 (h:=h) hlk);generalize l[k]=x at *
    by_cases hx:x=0∧(k:Int)≠h
    · obtain⟨rfl,hx2⟩:=hx;have HC:=Zh (HY.out hlk hx2);have e1:((k:Int) == h)=false:=by simpa using hx2
      have H3:=Zh (HP.out 0 false);rw [show (!(decide ((0:Int)=0)&&!false))=false from rfl] at H3;clear HY HZ hx2 hlk c1
      go_wp2_with fail
      refine (H3.out _).mono ?_;rintro e w1 ⟨rfl,rfl⟩;go_upto_region 6 with fail;refine Zl ?_;refine tk (ov) ?_;refine tk (.int .i64 k) ?_;refine Je (.slice (some ⟨wr.heap.size,0,none⟩) 1 1) (wr.alloc (.cells #[.int .i64 k] 3)) rfl (by go_simp) ?_;refine nm ?_;have hbl:Below wr.heap.size wr (wr.alloc (.cells #[.int .i64 k] 3)):=(Below.refl _ _).alloc (Nat.le_refl _) _;have hli:Own (wr.alloc (.cells #[.int .i64 k] 3)) wr.heap.size (.slice (some ⟨wr.heap.size,0,none⟩) 1 1) [(k:Int)]:=Own.lit wr wr.heap.size (Nat.le_refl _) [(k:Int)] (by simp) _ rfl;have hle:=J6a l h k;refine app_L (HO.below hbl) (Nat.le_trans HW.size hbl.size) hli.ints (by simp only [List.length_cons,List.length_nil];omega) rfl rfl rfl ?_;intro s2 w2 ho2 hb2;refine nm ?_;refine tk (s2) ?_;refine Zn ?_;have HO2:=Zh ho2;have HB2:=Zh ((HW.trans (hbl.mono HW.size)).trans hb2);clear hbl hli ho2 hb2 hle
      go_wp2_with fail
      go_roundg (l.length-(k+1))
      case measure=>omega
      case rel=>exact⟨k+1,_,rfl,by omega,by omega,by go_num,by rw [HC.out];exact HO2.out,HB2.out⟩
    · have HC:=Zh (HZ.out hx)
      by_cases hkh:(k:Int)=h
      · have e1:((k:Int) == h)=true:=by simpa using hkh
        have H3:=Zh (HP.out x true);rw [show (!(decide (x=0)&&!true))=true by simp] at H3;clear HY HZ hx hlk c1 hkh
        go_wp2_with fail
        refine (H3.out _).mono ?_;rintro e w1 ⟨rfl,rfl⟩
        go_wp2_with fail
        go_roundg (l.length-(k+1))
        case measure=>omega
        case rel=>exact⟨k+1,_,rfl,by omega,by omega,by go_num,by rw [HC.out];exact HO.out,HW.out⟩
      · have e1:((k:Int) == h)=false:=by simpa using hkh
        have H3:=Zh (HP.out x false);rw [show (!(decide (x=0)&&!false))=true by simp;exact fun a=>hx ⟨a,hkh⟩] at H3;clear HY HZ hx hlk c1 hkh
        go_wp2_with fail
        refine (H3.out _).mono ?_;rintro e w1 ⟨rfl,rfl⟩
        go_wp2_with fail
        go_roundg (l.length-(k+1))
        case measure=>omega
        case rel=>exact⟨k+1,_,rfl,by omega,by omega,by go_num,by rw [HC.out];exact HO.out,HW.out⟩
  · obtain rfl:k=l.length:=by omega
    have hk1:¬(l.length:Int)<(l.length:Int):=by omega
    go_wp2_with fail
    go_ret;exact⟨_,rfl,HO.out,HW.out⟩
open Go.RowKit
theorem make24(n:Nat)(hn:n≤64)(w:World):(Instr.makeSlice 41 (.int .i64 (n:Int)) (.int .i64 (n:Int))).run Tryz.prog w=.ok (.slice (some ⟨w.heap.size,0,none⟩) n n) (w.alloc (.cells (Js (YX n)).toArray 3)):=by
 obtain⟨i,hi,hz,hs,hb⟩:=J4f;have:=run_makeSlice (P:=Tryz.prog) w 41 3 i _ Tryz.underlying41 hi hz .i64 .i64 n n (by omega) (Int.le_refl _) (by rw [hs];omega) (by rw [hb];omega) (by omega);rw [hs] at this;have e:madeCells #[.int .i64 0] n=(Js (YX n)).toArray:=by
  apply Array.ext_getElem?;intro q
  by_cases hq:q<n
  · simp [madeCells,hq,YX,Nat.mod_one]
  · rw [Array.getElem?_eq_none (by rw [size_madeCells];omega),Array.getElem?_eq_none (by simp [YX];omega)]
 rw [←e];simpa [Value.cells] using this
theorem Jaq(n:Nat)(hn:n≤64)(w:World):Own (w.alloc (.cells (Js (YX n)).toArray 3)) w.heap.size (.slice (some ⟨w.heap.size,0,none⟩) n n) (YX n):=by
 have h:=Own.lit w w.heap.size (Nat.le_refl _) (YX n) (by simp [YX];omega) _ rfl
 rwa [show (YX n).length=n by simp [YX]] at h
theorem zI(w:World)(o:Obj):Below w.heap.size w (w.alloc o):=(Below.refl _ _).alloc (Nat.le_refl _) _
theorem Jar(g:Gm)(h:¬g.Ok)(l:List Int)(sv:Value)(w:World):Calls Tryz.prog 101 #[g.v,sv] w fun e w'=>∃rv,e=.returned rv∧Own w' w.heap.size rv (cts g l)∧Below w.heap.size w w':=by
 have H:=Zh fun w=>Zv g h w;have HC:=Zh (Jgt h l);clear h;go_enter Tryz.func101,Tryz.ntmps101
 go_wp2_with fail
 refine (H.out _).mono ?_;rintro e w1 ⟨rfl,hb⟩;have HB:=Zh (KY hb);clear hb
 go_wp2_with fail
 go_ret;exact⟨_,rfl,by rw [HC.out];exact Own.nil _ _,HB.out.1⟩
theorem J6c(g:Gm)(h:g.Ok)(l:List Int)(hn:l.length≤1000)(sv:Value)(w:World)(hs:IntsAt w sv l) :
 Calls Tryz.prog 101 #[g.v,sv] w fun e w'=>∃rv,e=.returned rv∧Own w' w.heap.size rv (cts g l)∧Below w.heap.size w w':=by
 rw [Jea h];obtain⟨a,cap,rfl,hc⟩:=hs;have H:=Zh fun w=>JW g h w;have HL:=Zh hc;have HS:=Zh fun n (hn:g.In n)=>h.seg hn;obtain⟨n,hsegs⟩:∃n,g.segs=n:=⟨_,rfl⟩
 have HN:Hid (g.segs=n):=hsegs;obtain⟨hg,hn6,hn16⟩:=h.segs;rw [hsegs] at hg hn6 hn16;have HG:=Zh hg;have MK:=fun w=>make24 n (by omega) w;have HI:=Zh fun n (hn:g.In n) W=>Rn.of_in g h n hn W;have HU:=Zh fun n (hn:¬g.In n) W=>Rn.of_out g h n hn W;clear h hc hg hsegs;go_enter Tryz.func101,Tryz.ntmps101
 go_wp2_with fail
 refine (H.out _).mono ?_;rintro e w1 ⟨rfl,hb⟩;have HB:=Zh (KY hb);clear hb;have c1:=HB.out.2.1.s;rw [HG.out] at c1
 go_wp2_with fail
 clear c1;obtain⟨r,hr⟩:∃r,w1.heap.size=r:=⟨_,rfl⟩
 have HMO:Hid (Own (w1.alloc (.cells (Js (YX n)).toArray 3)) r (.slice (some ⟨r,0,none⟩) n n) (YX n)):=Zh (by rw [←hr];exact Jaq n (by omega) w1);have HMB:Hid (Below r w1 (w1.alloc (.cells (Js (YX n)).toArray 3))):=Zh (by rw [←hr];exact zI w1 _);have HR:=Zh hr;simp only [hr];clear hr
 go_loopg [19] l.length (fun q i wr=>∃k:Nat,l.length-k≤q∧k≤l.length∧i=.int .i64 k∧Own wr r (.slice (some ⟨r,0,none⟩) n n) (Qy g (l.take k))∧Below r w1 wr)
 case atStart=>exact⟨0,by omega,by omega,rfl,by rw [List.take_zero,J29,HN.out];exact HMO.out,HMB.out⟩
 case round =>
  clear HMO HMB;obtain⟨k,hq,hk,rfl,ho,hb⟩:=hrel;have HO:=Zh ho;have HW:=Zh hb;have HX:=Zh (Zw HB.out (hb.mono (by rw [HR.out];exact Nat.le_refl _)));clear ho hb
  by_cases hlt:k<l.length
  · have hk1:(k:Int)<(l.length:Int):=by omega
    have hlk:l[k]? = some l[k]:=by simp [hlt]
    obtain⟨b,o,rfl,x1⟩:=HL.out k l[k] hlk;have d1:=(HX.out.1.cell (block_lt_of_cell x1)).trans x1;generalize l[k]=x at *;have HLK:=Zh hlk;clear x1 hlk;obtain⟨c0,c1,c2,c3⟩:=HX.out.2.1
    by_cases hx:g.In x
    · have H3:=Zh (HI.out x hx);obtain⟨u0,u1⟩:=HS.out x hx;rw [u0] at H3;have HC:=Zh (J2a HLK.out hx);have HA:Hid ((Qy g (l.take k))[g.seg x]? = some (jt g (l.take k) (g.seg x):Int)):=Zh (YS u1);have hle:=Je9 g (l.take k) (g.seg x);have hle2:(l.take k).length≤1000:=by simp;omega
      obtain⟨u,hu⟩:∃u,g.seg x=u:=⟨_,rfl⟩
      rw [hu] at H3 HC HA u1 hle;obtain⟨z,hz⟩:∃z,jt g (l.take k) u=z:=⟨_,rfl⟩
      rw [hz] at HC HA hle;rw [HN.out] at u1;generalize (x-4)%g.l=o2 at *;clear u0 hu hz hx
      go_wp2_with fail
      refine (H3.out _).mono ?_;rintro e w2 ⟨rfl,hb⟩;have HO2:=Zh (HO.below hb);have HW2:=Zh (HW.trans (hb.mono (by rw [←HR.out];exact HW.size)));clear hb;obtain⟨q0,q1⟩:=HO2.cell HA.out
      go_wp2_with fail
      go_roundg (l.length-(k+1))
      case measure=>omega
      case rel=>exact⟨k+1,by omega,by omega,by go_num,by rw [HC.out];exact HO2.set u _ (by rw [KT,HN.out];exact u1),HW2.setCell (Nat.le_refl _) _⟩
    · have H3:=Zh (HU.out x hx);have HC:=Zh (J68 HLK.out hx);clear hx
      go_wp2_with fail
      refine (H3.out _).mono ?_;rintro e w2 ⟨rfl,hb⟩;have HO2:=Zh (HO.below hb);have HW2:=Zh (HW.trans (hb.mono (by rw [←HR.out];exact HW.size)));clear hb
      go_wp2_with fail
      go_roundg (l.length-(k+1))
      case measure=>omega
      case rel=>exact⟨k+1,by omega,by omega,by go_num,by rw [HC.out];exact HO2.out,HW2.out⟩
  · obtain rfl:k=l.length:=by omega
    have hk1:¬(l.length:Int)<(l.length:Int):=by omega
    have HT:Hid (l.take l.length=l):=Zh List.take_length;rw [HT.out] at HO
    go_wp2_with fail
    go_ret;exact⟨_,rfl,HO.mono (by rw [←HR.out];exact HB.out.1.size),HX.out.1⟩
theorem count_any(g:Gm)(l:List Int)(hn:l.length≤1000)(sv:Value)(w:World)(hs:IntsAt w sv l) :
 Calls Tryz.prog 101 #[g.v,sv] w fun e w'=>∃rv,e=.returned rv∧Own w' w.heap.size rv (cts g l)∧Below w.heap.size w w':=by
 by_cases h:g.Ok
 · exact J6c g h l hn sv w hs
 · exact Jar g h l sv w
end Us
open Go.RowKit
variable {k:Nat} {l:List Int}
namespace Hs
open Go.RowKit Pl
open Go.RowKit
open Go.RowKit
def cnt(l:List Int):Nat:=(l.filter fun x=>x != 0).length
theorem Jgu(l:List Int):cnt l≤l.length:=List.length_filter_le _ _
theorem take_snoc{α:Type}{l:List α}{x:α}(h:l[k]? = some x):l.take (k+1)=l.take k++[x]:=by
 rw [List.take_add_one,h];rfl
theorem qe(l m:List Int):cnt (l++m)=cnt l+cnt m:=by simp [cnt]
theorem Jeb{x:Int}(h:l[k]? = some x)(hx:x≠0):cnt (l.take (k+1))=cnt (l.take k)+1:=by
 rw [take_snoc h,qe];simp [cnt,hx]
theorem Jgv(h:l[k]? = some 0):cnt (l.take (k+1))=cnt (l.take k):=by
 rw [take_snoc h,qe];simp [cnt]
theorem zJ(l:List Int)(k:Nat):cnt (l.take k)≤k:=Nat.le_trans (Jgu _) (by simp;omega)
open Go.RowKit
theorem count_any(l:List Int)(hn:l.length≤1000)(sv:Value)(w:World)(h:IntsAt w sv l):Calls Tryz.prog 125 #[sv] w fun e w'=>e=.returned (.int .i64 (cnt l))∧w=w':=by
 obtain⟨a,cap,rfl,hc⟩:=h;have HC:=Zh hc;clear hc;go_enter Tryz.func125,Tryz.ntmps125
 go_wp2_with fail
 go_loopg [8,3] l.length (fun q i n wr=>∃k:Nat,l.length-k≤q∧k≤l.length∧i=.int .i64 k∧n=.int .i64 (cnt (l.take k))∧w=wr)
 case atStart=>exact⟨0,by omega,by omega,rfl,rfl,rfl⟩
 case round =>
  obtain⟨k,hg,hk,rfl,rfl,rfl⟩:=hrel;have hle:=zJ l k
  by_cases hlt:k<l.length
  · have hlk:l[k]? = some l[k]:=by simp [hlt]
    obtain⟨b,o,rfl,c1⟩:=HC.out k l[k] hlk;generalize l[k]=x at *;have HL:=Zh hlk;clear hlk;have hk1:(k:Int)<(l.length:Int):=by omega
    by_cases hx:x=0
    · subst hx
      go_wp2_with fail
      go_roundg (l.length-(k+1))
      case measure=>omega
      case rel=>exact⟨k+1,by omega,by omega,by go_num,by rw [Jgv HL.out],rfl⟩
    · have e1:(x != 0)=true:=by simpa using hx
      have HX:=Zh hx;clear hx
      go_wp2_with fail
      go_roundg (l.length-(k+1))
      case measure=>omega
      case rel=>exact⟨k+1,by omega,by omega,by go_num,by rw [Jeb HL.out HX.out];go_num,rfl⟩
  · obtain rfl:k=l.length:=by omega
    have HT:Hid (l.take l.length=l):=Zh List.take_length
    go_wp2_with fail
    go_ret;exact⟨by rw [HT.out];rfl,rfl⟩
end Hs
open Go.RowKit
variable {X:List (List Int)} {n:Nat} {p:Int}
def Kr(X:List (List Int))(g:Pl.Gm)(id p:Int):Option Bk :=
 if (4≤p∧p≤4+g.s*g.l-1)∧JU (X.getD p.toNat [])=true∧(Qb (X.getD p.toNat [])).kind≠3∧(Qb (X.getD p.toNat [])).id=id then some (Qb (X.getD p.toNat [])) else none
def Jm(X:List (List Int))(g:Pl.Gm)(id:Int):Nat→Int→Option (List (Int×Bk))
 | 0,h=>if h=1 then some [] else none
 | n+1,h=>if h=1 then some [] else match Kr X g id h with
  | none=>none
  | some b=>if b.kind=1 then some [(h,b)] else (Jm X g id n b.prev).map ((h,b)::·)
theorem QT{g:Pl.Gm}{id:Int}{b:Bk}(h:Kr X g id p=some b):(4≤p∧p≤4+g.s*g.l-1)∧b.good=true∧b.kind≠3∧b.id=id:=by
 unfold Kr at h;split at h
 · rename_i hc
   obtain⟨h1,h2,h3,h4⟩:=hc;cases h;refine⟨h1,?_,h3,h4⟩;have e:Qb (X.getD p.toNat [])=readOf (X.getD p.toNat []):=if_pos h2;rw [e];simp [JU] at h2;exact h2.1
 · cases h
theorem Qi(X:List (List Int))(g:Pl.Gm)(id:Int)(n:Nat):Jm X g id n 1=some []:=by cases n <;> simp [Jm]
theorem KM{g:Pl.Gm}{id h:Int}{b:Bk}(h1:h≠1)(hb:Kr X g id h=some b):Jm X g id (n+1) h=if b.kind=1 then some [(h,b)] else (Jm X g id n b.prev).map ((h,b)::·):=by
 rw [Jm,if_neg h1,hb]
theorem QJ{g:Pl.Gm}{id h:Int}(h1:h≠1)(hb:Kr X g id h=none):Jm X g id n h=none:=by
 cases n with
 | zero=>simp [Jm,h1]
 | succ n=>rw [Jm,if_neg h1,hb]
theorem jM{g:Pl.Gm}{id:Int}:∀{n:Nat} {h:Int} {l:List (Int×Bk)},Jm X g id n h=some l→Fo.K0 id (l.map (·.2))=true∧l.length≤n
 | 0,h,l,e=>by
  unfold Jm at e;split at e
  · cases e;exact⟨rfl,Nat.le_refl _⟩
  · cases e
 | n+1,h,l,e=>by
  by_cases h1:h=1
  · subst h1;rw [Qi] at e;cases e;exact⟨rfl,Nat.zero_le _⟩
  · cases hb:Kr X g id h with
    | none=>rw [QJ h1 hb] at e;cases e
    | some b =>
     obtain⟨-,hg,h3,hid⟩:=QT hb;rw [KM h1 hb] at e
     by_cases hk:b.kind=1
     · rw [if_pos hk] at e;cases e;refine⟨?_,by simp⟩;simp [Fo.K0,Fo.okAt,hg,h3,hid,Bk.ends,hk]
     · rw [if_neg hk] at e;cases hc:Jm X g id n b.prev with
       | none=>rw [hc] at e;cases e
       | some l' =>
        rw [hc] at e;cases e;obtain⟨i1,i2⟩:=jM hc;refine⟨?_,by simp;omega⟩;have he:b.ends=l'.isEmpty:=by
         by_cases hp:b.prev=1
         · rw [hp,Qi] at hc;cases hc;simp [Bk.ends,hp]
         · have hl:l'≠[]:=fun e0=>by
            subst e0;cases n with
            | zero=>simp [Jm,hp] at hc
            | succ n =>
             cases hb2:Kr X g id b.prev with
             | none=>rw [QJ hp hb2] at hc;cases hc
             | some c =>
              rw [KM hp hb2] at hc;split at hc
              · cases hc
              · cases hd:Jm X g id n c.prev with
                | none=>rw [hd] at hc;cases hc
                | some l2=>rw [hd] at hc;cases hc
           have:l'.isEmpty=false:=by cases l' with
            | nil=>exact absurd rfl hl
            | cons=>rfl
           rw [this];simp [Bk.ends,hk,hp]
        simp only [List.map_cons,Fo.K0,Fo.okAt,hg,hid,he,Bool.and_eq_true,i1,and_true];simp [h3]
theorem ye{id:Int}{b:Bk}{r:List Bk}(h:Fo.K0 id (b::r)=true):b.id=id:=by
 simp [Fo.K0,Fo.okAt] at h;exact h.1.1.2
theorem XA{g:Pl.Gm}{id h:Int}{l:List (Int×Bk)}(e:Jm X g id 3 h=some l):Fo.jX (l.map (·.2))=Fo.comes (l.map (·.2))∧Fo.jr (l.map (·.2))=0:=by
 obtain⟨h1,h2⟩:=jM e;have hc:Fo.JE (l.map (·.2))=true:=by
  cases l with
  | nil=>rfl
  | cons p r =>
   have hi:=ye h1;simp only [List.map_cons] at h1 ⊢;simp only [Fo.JE];rw [hi,h1];simp;simpa using h2
 unfold Fo.jX Fo.jr;rw [if_pos hc,if_pos hc];exact⟨rfl,rfl⟩
open Go.RowKit
def ItIn(S:List (List Int))(x:It)(q:Int):Prop:=(x.has=true→∃(k:Nat) (m:Int),(0≤m∧m<4294967296)∧q=(k:Int)∧S[k]? = some (x.blk.sec m))∧(x.has=false→q=-1)
theorem ItIn.more{S:List (List Int)}{x:It}{q:Int}(h:ItIn S x q)(T:List (List Int)):ItIn (S++T) x q :=
 ⟨fun hx=>by
  obtain⟨k,m,hm,e,hk⟩:=h.1 hx
  have:=(List.getElem?_eq_some_iff.1 hk).1
  exact⟨k,m,hm,e,by rw [List.getElem?_append_left this];exact hk⟩,h.2⟩
theorem yf(n:Int)(hn:0≤n∧n<4294967296):∀(p:List It) (S:List (List Int)) {i:Nat} {x:It},p[i]? = some x→∃q,(XL S.length p)[i]? = some q∧ItIn (S++Ko n p) x q
 | [],S,i,x,h=>by simp at h
 | y::r,S,i,x,h=>by
  cases hy:y.has with
  | true =>
   have eb:Ko n (y::r)=y.blk.sec n::Ko n r:=by simp [Ko,hy]
   have ea:XL S.length (y::r)=(S.length:Int)::XL (S.length+1) r:=by simp [XL,hy]
   rw [eb,ea];cases i with
   | zero =>
    simp at h;subst h;exact⟨_,rfl,⟨fun _=>⟨S.length,n,hn,rfl,by simp⟩,fun h=>(by rw [hy] at h;cases h)⟩⟩
   | succ i =>
    have:=yf n hn r (S++[y.blk.sec n]) (i:=i) (x:=x) (by simpa using h);rw [List.length_append,List.length_singleton,List.append_assoc] at this;exact this
  | false =>
   have eb:Ko n (y::r)=Ko n r:=by simp [Ko,hy]
   have ea:XL S.length (y::r)=-1::XL S.length r:=by simp [XL,hy]
   rw [eb,ea];cases i with
   | zero =>
    simp at h;subst h;exact⟨_,rfl,⟨fun h=>(by rw [hy] at h;cases h),fun _=>rfl⟩⟩
   | succ i=>exact yf n hn r S (i:=i) (x:=x) (by simpa using h)
theorem qf(n:Int)(l:List It):∀k,24*k<l.length+24→(Ju n l k).2.length=min (24*k) l.length∧∀{i:Nat} {x:It},l[i]? = some x→i<24*k→∃q,(Ju n l k).2[i]? = some q∧ItIn (Ju n l k).1 x q
 | 0,_=>⟨by simp [Ju],fun _ h=>by omega⟩
 | k+1,hk=>by
  obtain⟨i1,i2⟩:=qf n l k (by omega);have e:Ju n l (k+1)=((Ju n l k).1++[JM ((n+k)%M32) (decide (24*k+24<l.length)) (Qa l k)]++Ko ((n+k)%M32) (Qa l k),(Ju n l k).2++XL ((Ju n l k).1.length+1) (Qa l k)):=by
   rw [Ju,Xc,Xd];simp
  rw [e];have hc:(Qa l k).length=min 24 (l.length-24*k):=by simp [Qa]
  refine⟨by simp only [List.length_append,Yk,i1,hc];omega,fun {i x} hx hi=>?_⟩;have hil:i<l.length:=(List.getElem?_eq_some_iff.1 hx).1
  by_cases hlt:i<24*k
  · obtain⟨q,h1,h2⟩:=i2 hx hlt;have:=(List.getElem?_eq_some_iff.1 h1).1;exact⟨q,by rw [List.getElem?_append_left this];exact h1,by rw [List.append_assoc];exact h2.more _⟩
  · have hx':(Qa l k)[i-24*k]? = some x:=by
     unfold Qa;rw [List.getElem?_take_of_lt (by omega),List.getElem?_drop,show 24*k+(i-24*k)=i by omega];exact hx
    obtain⟨q,h1,h2⟩:=yf ((n+k)%M32) ⟨Int.emod_nonneg _ (by decide),Int.emod_lt_of_pos _ (by decide)⟩ (Qa l k) ((Ju n l k).1++[JM ((n+k)%M32) (decide (24*k+24<l.length)) (Qa l k)]) hx';refine⟨q,?_,h2⟩;rw [List.getElem?_append_right (by omega),i1,show i-min (24*k) l.length=i-24*k by omega];simpa using h1
theorem Jec(n:Int)(l:List It){i:Nat}{x:It}(hx:l[i]? = some x):∃q,(Jf n l).2[i]? = some q∧ItIn (Jf n l).1 x q:=by
 have hi:i<l.length:=(List.getElem?_eq_some_iff.1 hx).1;exact (qf n l (parts l.length) (by unfold parts;omega)).2 hx (by unfold parts;omega)
theorem zK(n:Int)(l:List It):(Jf n l).2.length=l.length:=by
 have:=(qf n l (parts l.length) (by unfold parts;omega)).1;unfold Jf;rw [this];unfold parts;omega
def Stands(X:List (List Int))(g:Pl.Gm)(x:It)(p:Int):Prop:=(x.has=true→(4≤p∧p≤4+g.s*g.l-1)∧∃m,(0≤m∧m<4294967296)∧X[p.toNat]? = some (x.blk.sec m))∧(x.has=false→p=0)
theorem Rcd.stands{X:List (List Int)}{g:Pl.Gm}{a b:Ja}{P:List (List It×List Int)}(h:Rcd X g a P b):∀q∈P,q.1.length=q.2.length∧∀(i:Nat) (x:It),q.1[i]? = some x→∃p,q.2[i]? = some p∧Stands X g x p:=by
 induction h with
 | nil=>exact fun q hq=>by cases hq
 | @snoc P b b1 l hr hg hn hs hm hw hX hk ih =>
  intro q hq;rcases List.mem_append.1 hq with hq|hq
  · exact ih q hq
  · obtain rfl:=List.mem_singleton.1 hq;obtain⟨f,hf,hf4,hfn⟩:=hn.first;refine⟨by simp [pOf,zK],fun i x hx=>?_⟩;obtain⟨c,h1,h2⟩:=Jec b.seq l hx;refine⟨XF (J8 g b1) c,by simp [pOf,h1],fun hh=>?_,fun hh=>?_⟩
    · obtain⟨k,m,hm,rfl,hk2⟩:=h2.1 hh;have hkl:=(List.getElem?_eq_some_iff.1 hk2).1;have e:XF (J8 g b1) (k:Int)=((f+k:Nat):Int):=by unfold XF;rw [if_pos (by omega),hf];omega
      rw [e];refine⟨⟨by omega,by omega⟩,m,hm,?_⟩;have:=hX k _ hk2;rw [hf] at this;rw [Int.toNat_natCast];simpa using this
    · rw [h2.2 hh];rfl
open Go.RowKit
theorem Stands.blk{X:List (List Int)}{g:Pl.Gm}{x:It}{p:Int}(h:Stands X g x p)(hx:x.has=true)(hg:x.blk.good=true)(hw:x.blk.Wf)(h3:x.blk.kind≠3):Kr X g x.blk.id p=some x.blk:=by
 obtain⟨hp,n,hn,hX⟩:=h.1 hx;have eX:X.getD p.toNat []=x.blk.enc n:=by rw [List.getD_eq_getElem?_getD,hX];exact if_pos hg
 have hb:=Yn hg hw n hn;have hd:Qb (x.blk.enc n)=x.blk:=by rw [(ZH hb).1,(ZC hg hw n hn).1]
 unfold Kr;rw [eX,hd,if_pos ⟨hp,hb,h3,rfl⟩]
open Go.RowKit
variable {X:List (List Int)} {p:Int}
def bAt(X:List (List Int))(g:Pl.Gm)(p:Int):Option Bk :=
 if (4≤p∧p≤4+g.s*g.l-1)∧JU (X.getD p.toNat [])=true then some (Qb (X.getD p.toNat [])) else none
theorem ZW(X:List (List Int))(g:Pl.Gm)(id p:Int):Kr X g id p=(bAt X g p).bind fun b=>if b.kind≠3∧b.id=id then some b else none:=by
 unfold Kr bAt
 by_cases h:(4≤p∧p≤4+g.s*g.l-1)∧JU (X.getD p.toNat [])=true
 · rw [if_pos h]
   by_cases k:(Qb (X.getD p.toNat [])).kind≠3∧(Qb (X.getD p.toNat [])).id=id
   · rw [if_pos ⟨h.1,h.2,k.1,k.2⟩];exact (if_pos k).symm
   · rw [if_neg fun c=>k ⟨c.2.2.1,c.2.2.2⟩];exact (if_neg k).symm
 · rw [if_neg h,if_neg fun c=>h ⟨c.1,c.2.1⟩];rfl
theorem Jas{g:Pl.Gm}{id:Int}(h:bAt X g p=none):Kr X g id p=none:=by rw [ZW,h];rfl
theorem Jat{g:Pl.Gm}{id:Int}{b:Bk}(h:bAt X g p=some b)(h3:b.kind≠3)(hi:b.id=id):Kr X g id p=some b:=by rw [ZW,h];exact if_pos ⟨h3,hi⟩
theorem xi{g:Pl.Gm}{id:Int}{b:Bk}(h:bAt X g p=some b)(hn:¬(b.kind≠3∧b.id=id)):Kr X g id p=none:=by rw [ZW,h];exact if_neg hn
def qg(b:Bk):Int:=if b.kind=1 then 1 else b.prev
structure Fol (X:List (List Int)) (g:Pl.Gm) (id head:Int) (l:List (Int×Bk)) (h:Int):Prop where
 few:l.length≤3
 fro:Jm X g id 3 head=(Jm X g id (3-l.length) h).map (l++·)
 las:∀m p b,l=m++[(p,b)]→qg b=h
theorem Fol.start(X:List (List Int))(g:Pl.Gm)(id head:Int):Fol X g id head [] head :=
 ⟨by simp,by simp,fun m p b e=>by simp at e⟩
theorem Fol.next{g:Pl.Gm}{id head h:Int}{l:List (Int×Bk)}{b:Bk}(f:Fol X g id head l h)(h1:h≠1)(hl:l.length<3)(hb:Kr X g id h=some b):Fol X g id head (l++[(h,b)]) (qg b):=by
 refine⟨by simp;omega,?_,fun m p c e=>?_⟩
 · obtain⟨n,hn⟩:∃n,3-l.length=n+1:=⟨2-l.length,by omega⟩
   rw [f.fro,hn,KM h1 hb,List.length_append,List.length_singleton,show 3-(l.length+1)=n by omega];unfold qg
   by_cases hk:b.kind=1
   · rw [if_pos hk,if_pos hk,Qi];simp
   · rw [if_neg hk,if_neg hk,Option.map_map];congr 1;funext x;simp
 · have:=List.append_inj_right' e rfl;simp at this;rw [←this.2]
theorem Fol.stop{g:Pl.Gm}{id head h:Int}{l:List (Int×Bk)}(f:Fol X g id head l h)(h1:h=1):Jm X g id 3 head=some l:=by
 rw [f.fro,h1,Qi];simp
theorem Fol.no{g:Pl.Gm}{id head h:Int}{l:List (Int×Bk)}(f:Fol X g id head l h)(h1:h≠1)(hb:Kr X g id h=none):Jm X g id 3 head=none:=by
 rw [f.fro,QJ h1 hb];rfl
theorem Xq{id:Int}{b:Bk}:∀{l:List Bk},Fo.K0 id (l++[b])=true→b.ends=true
 | [],h=>by
  simp [Fo.K0,Fo.okAt] at h;exact h.2
 | c::r,h=>by
  simp only [List.cons_append,Fo.K0,Bool.and_eq_true] at h;exact Xq h.2
theorem Fol.over{g:Pl.Gm}{id head h:Int}{l:List (Int×Bk)}(f:Fol X g id head l h)(h1:h≠1)(hl:l.length=3):Jm X g id 3 head=none∧Fo.JE (l.map (·.2))=false:=by
 constructor
 · rw [f.fro,hl];simp [Jm,h1]
 · cases hc:Fo.JE (l.map (·.2)) with
   | false=>rfl
   | true =>
    exfalso;obtain⟨m,q,rfl⟩:∃m q,l=m++[q]:=⟨_,_,(List.dropLast_concat_getLast (List.ne_nil_of_length_pos (by omega))).symm⟩
    have hx:=f.las m q.1 q.2 rfl;have he:q.2.ends=true:=by
     rw [List.map_append] at hc;simp only [List.map_cons,List.map_nil] at hc;cases hm:m.map (·.2) with
     | nil=>rw [hm] at hc;simp [Fo.JE] at hc;exact Xq (l:=[]) hc
     | cons c r =>
      rw [hm] at hc;simp only [List.cons_append,Fo.JE,Bool.and_eq_true] at hc;exact Xq (l:=c::r) hc.2
    unfold qg at hx;unfold Bk.ends at he
    by_cases hk:q.2.kind=1
    · rw [if_pos hk] at hx;exact h1 hx.symm
    · rw [if_neg hk] at hx;simp [hk] at he;exact h1 (hx.symm.trans he)
def JY(X:List (List Int))(g:Pl.Gm):Int→List Int→Option (List Int)
 | _,[]=>some []
 | k,h::r=>if h=0 then JY X g (k+1) r else match Jm X g k 3 h with
  | none=>none
  | some l=>(JY X g (k+1) r).map (l.map (·.1)++·)
theorem Ky{g:Pl.Gm}{k h:Int}{r:List Int}(h0:h=0):JY X g k (h::r)=JY X g (k+1) r:=if_pos h0
theorem XB{g:Pl.Gm}{k h:Int}{r:List Int}{l:List (Int×Bk)}(h0:h≠0)(hc:Jm X g k 3 h=some l):JY X g k (h::r)=(JY X g (k+1) r).map (l.map (·.1)++·):=by
 rw [JY,if_neg h0,hc]
theorem qh{g:Pl.Gm}{k h:Int}{r:List Int}(h0:h≠0)(hc:Jm X g k 3 h=none):JY X g k (h::r)=none:=by
 rw [JY,if_neg h0,hc]
def Q9(R:List Int):List Int:=R.filter (·≠0)
def Ye(X:List (List Int))(g:Pl.Gm)(H R:List Int):Option (List Int):=(JY X g 0 H).map (·++Q9 R)
def J6d(g:Pl.Gm)(seg off p:Int):Prop:=¬((p-4)/g.l=seg∧off≤(p-4)%g.l)
instance (g:Pl.Gm) (seg off p:Int):Decidable (J6d g seg off p):=by unfold J6d;infer_instance
def QK(X:List (List Int))(g:Pl.Gm)(H R:List Int)(seg off cap:Int):Option (List Int) :=
 if cap<(H.filter fun x=>x != 0).length then none else match Ye X g H R with
 | none=>none
 | some l=>if l.Nodup∧∀p∈l,J6d g seg off p then some l else none
theorem XI{g:Pl.Gm}{id:Int}:∀{n:Nat} {h:Int} {l:List (Int×Bk)},Jm X g id n h=some l→l.length≤n∧∀q∈l,4≤q.1∧q.1≤4+g.s*g.l-1
 | 0,h,l,e=>by
  unfold Jm at e;split at e
  · cases e;exact⟨Nat.le_refl _,fun q hq=>by cases hq⟩
  · cases e
 | n+1,h,l,e=>by
  by_cases h1:h=1
  · subst h1;rw [Qi] at e;cases e;exact⟨Nat.zero_le _,fun q hq=>by cases hq⟩
  · cases hb:Kr X g id h with
    | none=>rw [QJ h1 hb] at e;cases e
    | some b =>
     have hp:=(QT hb).1;rw [KM h1 hb] at e;split at e
     · cases e;exact⟨by simp,fun q hq=>by obtain rfl:=List.mem_singleton.1 hq;exact hp⟩
     · cases hc:Jm X g id n b.prev with
       | none=>rw [hc] at e;cases e
       | some l' =>
        rw [hc] at e;cases e;obtain⟨i1,i2⟩:=XI hc;refine⟨by simp;omega,fun q hq=>?_⟩;rcases List.mem_cons.1 hq with rfl|hq
        · exact hp
        · exact i2 q hq
theorem Zk{g:Pl.Gm}:∀{H:List Int} {k:Int} {l:List Int},JY X g k H=some l→l.length≤3*H.length∧∀p∈l,4≤p∧p≤4+g.s*g.l-1
 | [],k,l,e=>by
  cases e;exact⟨by simp,fun p hp=>by cases hp⟩
 | h::r,k,l,e=>by
  by_cases h0:h=0
  · rw [Ky h0] at e;obtain⟨i1,i2⟩:=Zk e;exact⟨by simp;omega,i2⟩
  · cases hc:Jm X g k 3 h with
    | none=>rw [qh h0 hc] at e;cases e
    | some c =>
     rw [XB h0 hc] at e;cases hr:JY X g (k+1) r with
     | none=>rw [hr] at e;cases e
     | some l' =>
      rw [hr] at e;cases e;obtain⟨i1,i2⟩:=Zk hr;obtain⟨j1,j2⟩:=XI hc;refine⟨by simp;omega,fun p hp=>?_⟩;rcases List.mem_append.1 hp with hp|hp
      · obtain⟨q,hq,rfl⟩:=List.mem_map.1 hp;exact j2 q hq
      · exact i2 p hp
theorem YT(hX:∀y∈X,Sc y){g:Pl.Gm}{id:Int}:∀{n:Nat} {h:Int} {l:List (Int×Bk)},Jm X g id n h=some l→∀b∈l.map (·.2),b.Wf
 | 0,h,l,e=>by
  unfold Jm at e;split at e
  · cases e;exact fun b hb=>by cases hb
  · cases e
 | n+1,h,l,e=>by
  by_cases h1:h=1
  · subst h1;rw [Qi] at e;cases e;exact fun b hb=>by cases hb
  · cases hb:Kr X g id h with
    | none=>rw [QJ h1 hb] at e;cases e
    | some b =>
     have hw:b.Wf:=by
      have hp:=(QT hb).1;unfold Kr at hb;split at hb
      · cases hb;unfold Qb;split
        · rename_i h2 h3
          refine readOf_wf (hX _ ?_);rw [List.getD_eq_getElem?_getD];cases hq:X[h.toNat]? with
          | none=>rw [List.getD_eq_getElem?_getD,hq] at h3;exact absurd h3 (by decide)
          | some y=>exact List.mem_of_getElem? hq
        · exact none_wf
      · cases hb
     rw [KM h1 hb] at e;split at e
     · cases e;intro c hc;simp at hc;subst hc;exact hw
     · cases hc:Jm X g id n b.prev with
       | none=>rw [hc] at e;cases e
       | some l' =>
        rw [hc] at e;cases e;intro c hc2;rcases List.mem_cons.1 hc2 with rfl|hc2
        · exact hw
        · exact YT hX hc c hc2
open Go.RowKit Rn
variable {A:Nat→Prop} {B N c g j:Nat} {E:World→Prop} {K:Act→World→Prop} {L M:List Value} {Q:Exit→Act→World→Prop} {T t:TypeId} {V:List (Nat×List Value)} {W w w':World} {a:Act} {l:List Int} {o:Oper} {sv v:Value} {y:Operand}
structure Ob (t:TypeId) (L:List Value):Prop where
 sz:(Tryz.prog.info? t).map (·.size)=some L.length
 ag:(∃f,Tryz.prog.underlying t=some (.struct f))∨∃n e,Tryz.prog.underlying t=some (.array n e)
 one:∀v∈L,v.oneCell'=true
 ns:∀v∈L,∀t,v≠.string t
theorem Ob.len(h:Ob t L)(k:Ob t M):M.length=L.length:=Option.some.inj (k.sz.symm.trans h.sz)
theorem Jau{A:Type}{p L q:List A}{v:A}(h:L[j]? = some v):(p++(L++q))[p.length+j]? = some v:=by
 have hj:=(List.getElem?_eq_some_iff.1 h).1;rw [List.getElem?_append_right (Nat.le_add_right _ _),Nat.add_sub_cancel_left,List.getElem?_append_left hj,h]
section
variable {N:Nat} {A:Nat→Prop} {E:World→Prop} {V:List (Nat×List Value)} {ops:Array Oper} {rest:List Oper} {dst:Option Tmp} {x y:Operand} {t:TypeId} {t2:TypeId} {pos:String} {after:Array Edge} {guard:Option (Nat×Bool)} {a:Act} {w:World} {Q:Exit→Act→World→Prop}
theorem ldO(o:Ob t L)(h:Rn.St N A E V w)(i:Nat){G:Prop}(k:G)(hv:V[i]? = some (g,L):=by rfl)(hx:a.eval x=.pointer (some ⟨g,0,none⟩):=by rfl)(hw:Region.wanted ⟨dst,.load t x,t2,pos,after,guard⟩ (yielded ops a.tmps)=true:=by rfl)(m:G→wpList Tryz.prog ops Q rest (a.put dst (.agg L.toArray)) w:=by intro h;(try simp only [Act.put,List.setIfInBounds_toArray,List.set_cons_succ,List.set_cons_zero]);exact h):wpList Tryz.prog ops Q (⟨dst,.load t x,t2,pos,after,guard⟩::rest) a w:=by
 rcases o.ag with ⟨f,hu⟩|⟨n,e,hu⟩
 · exact Jd hw t x rfl g 0 hx L.toArray _ hu rfl (by rw [List.size_toArray];exact o.sz) (Blk.all (h.blk i g _ hv) rfl) (m k)
 · exact Jd hw t x rfl g 0 hx L.toArray _ hu rfl (by rw [List.size_toArray];exact o.sz) (Blk.all (h.blk i g _ hv) rfl) (m k)
theorem ldP{p q:List Value}(o:Ob t L)(h:Rn.St N A E V w)(i:Nat)(hm:M=p++(L++q)){G:Prop}(k:G)(hc:p.length=c:=by rfl)(hv:V[i]? = some (g,M):=by rfl)(hx:a.eval x=.pointer (some ⟨g,c,none⟩):=by rfl)(hw:Region.wanted ⟨dst,.load t x,t2,pos,after,guard⟩ (yielded ops a.tmps)=true:=by rfl)(m:G→wpList Tryz.prog ops Q rest (a.put dst (.agg L.toArray)) w:=by intro h;(try simp only [Act.put,List.setIfInBounds_toArray,List.set_cons_succ,List.set_cons_zero]);exact h):wpList Tryz.prog ops Q (⟨dst,.load t x,t2,pos,after,guard⟩::rest) a w:=by
 have hA:∀j (hj:j<L.toArray.size),w.cell? ⟨g,c+j,none⟩=some L.toArray[j]:=fun j hj=>by
  subst hm hc;exact (h.blk i g _ hv).cell (Jau (by rw [List.getElem?_eq_getElem (by simpa using hj)];simp))
 rcases o.ag with ⟨f,hu⟩|⟨n,e,hu⟩
 · exact Jd hw t x rfl g c hx L.toArray _ hu rfl (by rw [List.size_toArray];exact o.sz) hA (m k)
 · exact Jd hw t x rfl g c hx L.toArray _ hu rfl (by rw [List.size_toArray];exact o.sz) hA (m k)
theorem stO(o:Ob t L)(hl:M.length=L.length)(h:Rn.St N A E V w)(i:Nat){G:World→Prop}(k:∀w',Rn.St N A E (V.set i (g,L)) w'→G w')(hv:V[i]? = some (g,M):=by rfl)(hx:a.eval x=.pointer (some ⟨g,0,none⟩):=by rfl)(hy:a.eval y=.agg L.toArray:=by rfl)(hw:Region.wanted ⟨dst,.store t x y,t2,pos,after,guard⟩ (yielded ops a.tmps)=true:=by rfl)(m:∀w',G w'→wpList Tryz.prog ops Q rest (a.put dst undef) w':=by intro w' h;(try simp only [Act.put,List.setIfInBounds_toArray,List.set_cons_succ,List.set_cons_zero]);exact h):wpList Tryz.prog ops Q (⟨dst,.store t x y,t2,pos,after,guard⟩::rest) a w :=
 Rn.sw (cs:=L.toArray) h i (by simpa using hl) (by rw [List.size_toArray];exact o.sz) (by simpa using o.one) k hv hx hy hw (hns:=o.ns) (m:=m)
theorem stP{M' p L' q:List Value}(o:Ob t L')(hl:L.length=L'.length)(hq:∀v∈M',∀t,v≠.string t)(h:Rn.St N A E V w)(i:Nat)(hm:M=p++(L++q))(hm':M'=p++(L'++q)){G:World→Prop}(k:∀w',Rn.St N A E (V.set i (g,M')) w'→G w')(hc:p.length=c:=by rfl)(hv:V[i]? = some (g,M):=by rfl)(hx:a.eval x=.pointer (some ⟨g,c,none⟩):=by rfl)(hy:a.eval y=.agg L'.toArray:=by rfl)(hw:Region.wanted ⟨dst,.store t x y,t2,pos,after,guard⟩ (yielded ops a.tmps)=true:=by rfl)(m:∀w',G w'→wpList Tryz.prog ops Q rest (a.put dst undef) w':=by intro w' h;(try simp only [Act.put,List.setIfInBounds_toArray,List.set_cons_succ,List.set_cons_zero]);exact h):wpList Tryz.prog ops Q (⟨dst,.store t x y,t2,pos,after,guard⟩::rest) a w:=by
 subst hm hm' hc;refine Zs (cs:=L'.toArray) (h.blk i g _ hv) (by rw [List.size_toArray];exact o.sz) (by simp;omega) (by simpa using o.one) hx hy hw fun wX hD hO _=>m _ (k _ (h.put i hv hq ?_ hO));have e:(Jt (p++(L++q)) p.length L'.toArray).toList=p++(L'++q):=by
  simp [Jt,←hl]
 rw [e] at hD;exact hD
theorem sc{old:Value}(h:Rn.St N A E V w)(i c':Nat)(hs:∀t,v≠.string t){G:World→Prop}(k:∀w',Rn.St N A E (V.set i (g,M.set c' v)) w'→G w')(hc:c=c':=by rfl)(hv:V[i]? = some (g,M):=by rfl)(hl:M[c']? = some old:=by rfl)(hx:a.eval x=.pointer (some ⟨g,c,none⟩):=by rfl)(hw:Region.wanted ⟨dst,.store t x y,t2,pos,after,guard⟩ (yielded ops a.tmps)=true:=by rfl)(r:w.cell? ⟨g,c,none⟩=some old→w.frozen? ⟨g,c,none⟩=false→(execOp a.eval ⟨dst,.store t x y,t2,pos,after,guard⟩).run Tryz.prog w=.ok .skip (w.setCell ⟨g,c,none⟩ v):=by intro hq hf;go_simp)(m:∀w',G w'→wpList Tryz.prog ops Q rest (a.put dst undef) w':=by intro w' h;(try simp only [Act.put,List.setIfInBounds_toArray,List.set_cons_succ,List.set_cons_zero]);exact h):wpList Tryz.prog ops Q (⟨dst,.store t x y,t2,pos,after,guard⟩::rest) a w:=by
 subst hc;have hb:=h.blk i g _ hv;refine Xu _ hw (r (hb.cell hl) (hb.frozen c)) (m _ (k _ (h.put i hv (fun u hu=>?_) (hb.set c v) ((Only.refl (fun k=>k=g) w).setCell (p:=⟨g,c,none⟩) (.inl rfl) v))));rcases List.mem_or_eq_of_mem_set hu with hu|rfl
 · exact h.ns i g M hv u hu
 · exact hs
end
theorem stH{x:Operand}(ob:Ob t L)(hl:M.length=L.length)(hg:Blk w g M)(h:∀wX,Blk wX g L→Only (fun k=>k=g) w wX→K (a.put o.dst undef) wX)(ho:o.op=.store t x y:=by rfl)(hx:a.eval x=.pointer (some ⟨g,0,none⟩):=by rfl)(hy:a.eval y=.agg L.toArray:=by rfl):o.wp Tryz.prog a w K Q :=
 JA t x y ho g L.toArray hx hy M hg (by simpa using hl) (by rw [List.size_toArray];exact ob.sz) (by simpa using ob.one) h
theorem Y6{fn:Func}{p q:Tmp}{R:Ending→World→Prop}(o:Ob t L)(h:Rn.St N A E V w)(i:Nat)(hv:V[i]? = some (g,L))(hR:R (.returned (.tuple #[.agg L.toArray,v])) w)(hf:fn.results=#[.cell p t,.tmp q]:=by rfl)(hp:a.tmps.getD p undef=.pointer (some ⟨g,0,none⟩):=by rfl)(hq:a.tmps.getD q undef=v:=by rfl)(hd:a.defers=[]:=by rfl):bodyPost Tryz.prog fn R .ret a w:=by
 rcases o.ag with ⟨f,hu⟩|⟨n,e,hu⟩
 · exact bodyPost_ret (v:=.tuple #[.agg L.toArray,v]) (results_cell_tmp hf _ _ g 0 _ _ _ hp hq hu rfl (by rw [List.size_toArray];exact o.sz) (Blk.all (h.blk i g _ hv) rfl)) hd hR
 · exact bodyPost_ret (v:=.tuple #[.agg L.toArray,v]) (results_cell_tmp hf _ _ g 0 _ _ _ hp hq hu rfl (by rw [List.size_toArray];exact o.sz) (Blk.all (h.blk i g _ hv) rfl)) hd hR
theorem St.own{x:Nat}(h:Blk W x L)(hns:∀v∈L,∀t,v≠.string t):Rn.St 0 (fun k=>k<W.heap.size∧k≠x) (Only (fun k=>k=x) W) [(x,L)] W:=by
 have at0:∀(i g:Nat) (M:List Value),[(x,L)][i]? = some (g,M)→i=0∧g=x∧M=L:=fun i g M e=>by
  cases i with
  | zero=>cases e;exact⟨rfl,rfl,rfl⟩
  | succ i=>simp at e
 refine⟨Nat.zero_le _,fun i g M e=>?_,fun i g M e=>Nat.zero_le _,fun i j g M M' e f=>?_,Only.refl _ _,⟨fun u u' _ he hb=>he.trans (Only.of_below hb),fun g _ ha v v' hv hs ho=>?_,fun u hu k hk=>Nat.lt_of_lt_of_le hk.1 hu.size⟩,fun i g M e=>?_,fun i g M e=>?_⟩
 · obtain⟨-,rfl,rfl⟩:=at0 i g M e;exact h
 · rw [(at0 i g M e).1,(at0 j g M' f).1]
 · by_cases hg:g=x
   · subst hg;exact hv.trans ho
   · exact hv.into ho (by omega)
 · obtain⟨-,rfl,-⟩:=at0 i g M e;exact fun hk=>hk.2 rfl
 · obtain⟨-,-,rfl⟩:=at0 i g M e;exact hns
theorem St.via(h:Rn.St N A E V w)(i:Nat)(hi:V[i]? = some (g,L))(hns:∀v∈M,∀t,v≠.string t)(hD:Blk w' g M)(hO:Only (fun k=>k=g) w w'):Rn.St N A E (V.set i (g,M)) w':=h.put i hi hns hD hO
theorem Stays.ints:Stays N (fun k=>l≠[]∧sv.ownBlock=some k) fun u=>IntsAt u sv l :=
 ⟨fun u u' hn he hb=>he.below hb,fun g hg ha v v' hv hs ho=>by
  obtain⟨a,cap,e,hc⟩:=hv
  refine⟨a,cap,e,fun i x hx=>?_⟩
  obtain⟨b,o,ha',hc'⟩:=hc i x hx
  refine⟨b,o,ha',ho.cell (fun hbg=>ha ⟨fun h0=>by rw [h0] at hx;simp at hx,?_⟩) hc'⟩
  have hbg:b=g:=hbg
  rw [e,ha',hbg]
  rfl,fun u hu k ⟨h0,hk⟩=>by
  obtain⟨a,cap,e,hc⟩:=hu
  cases l with
  | nil=>exact absurd rfl h0
  | cons x r =>
   obtain⟨b,o,ha',hc'⟩:=hc 0 x rfl
   rw [e,ha'] at hk
   cases hk
   exact block_lt_of_cell hc'⟩
theorem qi(l:List Int):∀v∈u8s l,v.oneCell'=true:=by simpa using Ji l
theorem Kz(h:l.length=32):Ob 43 (u8s l):=⟨by rw [List.length_map,h];kernel_rfl,.inr ⟨_,_,Tryz.underlying43⟩,qi l,u8s_noStr l⟩
theorem Qz(h:l.length=64):Ob 36 (u8s l):=⟨by rw [List.length_map,h];kernel_rfl,.inr ⟨_,_,Tryz.underlying36⟩,qi l,u8s_noStr l⟩
def IsSl(v:Value):Prop:=∃a n c,v=.slice a n c
theorem IsSl.one(h:IsSl v):v.oneCell'=true:=by obtain⟨a,n,c,rfl⟩:=h;rfl
theorem IsSl.ns(h:IsSl v):∀t,v≠.string t:=by obtain⟨a,n,c,rfl⟩:=h;exact fun t e=>by cases e
theorem OwnN.sl(h:OwnN w B sv l):IsSl sv:=by obtain⟨a,c,e,-⟩:=h.ints;exact⟨_,_,_,e⟩
theorem IntsAt.sl(h:IntsAt w sv l):IsSl sv:=by obtain⟨a,c,e,-⟩:=h;exact⟨_,_,_,e⟩
theorem Jq:IsSl (.slice none 0 0):=⟨_,_,_,rfl⟩
def chC(sv:Value)(l:List Int):List Value:=sv::u8s l
theorem Ks(h:IsSl sv)(hl:l.length=32):Ob 45 (chC sv l):=⟨by rw [chC,List.length_cons,List.length_map,hl];kernel_rfl,.inl ⟨_,Tryz.underlying45⟩,fun v hv=>by
 rcases List.mem_cons.1 hv with rfl|hv
 · exact h.one
 · exact qi l v hv,fun v hv=>by
 rcases List.mem_cons.1 hv with rfl|hv
 · exact h.ns
 · exact u8s_noStr l v hv⟩
theorem ZX(sv:Value)(l:List Int):chC sv l=[sv]++(u8s l++[]):=by simp [chC]
def chZ:List Value:=chC (.slice none 0 0) (zeros 32)
theorem chz_ob:Ob 45 chZ:=Ks Jq rfl
theorem Kc:(Tryz.prog.info? 45).bind (·.zero)=some (.agg chZ.toArray):=by kernel_rfl
theorem X7(w:World):(Instr.build 45 #[]).run Tryz.prog w=.ok (.agg chZ.toArray) w:=run_build (P:=Tryz.prog) w 45 _ _ (by kernel_rfl)
theorem Jv{b:Bk}(h:b.Wf)(hs:IsSl sv):Ob 82 (b.cells sv):=⟨by rw [Bk.cells_length h];kernel_rfl,.inl ⟨_,Tryz.underlying82⟩,by simpa [Bk.arr] using Bk.arr_one hs.one,fun v hv t e=>by
 subst e
 simp only [Bk.cells,List.mem_cons,List.mem_append,List.mem_map] at hv
 rcases hv with h|h|⟨z,_,h⟩|h|h|h|⟨z,_,h⟩ <;> first|exact hs.ns t h.symm|cases h⟩
theorem Jg(g:Pl.Gm):Ob 23 [.int .i64 g.p,.int .i64 g.s,.int .i64 g.l,.int .i64 g.f]:=⟨by kernel_rfl,.inl ⟨_,Tryz.underlying23⟩,fun v hv=>by simp at hv;rcases hv with rfl|rfl|rfl|rfl <;> rfl,fun v hv t e=>by subst e;simp at hv⟩
theorem Kf(o:Ob t L){u:World}(h:Blk u g L)(ev:Operand→Value)(op:Oper)(x:Operand)(ho:op.op=.load t x)(hx:ev x=.pointer (some ⟨g,0,none⟩)):(execOp ev op).run Tryz.prog u=.ok (.value (.agg L.toArray)) u:=by
 rcases o.ag with ⟨f,hu⟩|⟨n,e,hu⟩
 · exact exec_load_at u ev op t x ho g 0 hx L.toArray _ hu rfl (by rw [List.size_toArray];exact o.sz) (Blk.all h rfl)
 · exact exec_load_at u ev op t x ho g 0 hx L.toArray _ hu rfl (by rw [List.size_toArray];exact o.sz) (Blk.all h rfl)
theorem new_err(n:Int)(hn:(n == 0)=false)(s:ByteArray)(w:World):Calls Tryz.prog 56 #[.int .i64 n,.string s] w fun e w'=>∃T d t ts,e=.returned (.iface T d)∧Chain w' n (t::ts) (.iface T d)∧Below w.heap.size w w' :=
 (QF n hn s w).mono fun e w' ⟨v,h1,⟨T,d,t,ts,h2,h3⟩,h4⟩=>⟨T,d,t,ts,by rw [h1,h2],h3,h4⟩
theorem wrap_err{n:Int}{d:Value}{t:ByteArray}{ts:List ByteArray}(s:ByteArray)(w:World)(h:Chain w n (t::ts) (.iface T d)):Calls Tryz.prog 59 #[.iface T d,.string s] w fun e w'=>∃T d t ts,e=.returned (.iface T d)∧Chain w' n (t::ts) (.iface T d)∧Below w.heap.size w w' :=
 (Xh n (.iface T d) s w ⟨T,d,t,ts,rfl,h⟩).mono fun e w' ⟨v,h1,⟨T,d,t,ts,h2,h3⟩,h4⟩=>⟨T,d,t,ts,by rw [h1,h2],h3,h4⟩
def qj(n:Int)(L:List Value)(e:Ending)(w':World):Prop:=∃T d t ts,e=.returned (.tuple #[.agg L.toArray,.iface T d])∧Chain w' n (t::ts) (.iface T d)
theorem Bytes.sl(h:BytesAt w sv l):IsSl sv:=by obtain⟨a,c,e,-⟩:=h;exact⟨_,_,_,e⟩
theorem Y7{y:List Int}(h:Sc y):(Qb y).Wf:=by
 unfold Qb;split
 · exact readOf_wf h
 · exact none_wf
theorem Fresh.up(h:Fresh B sv)(hn:N≤B):Fresh N sv:=fun b o n c e=>Nat.le_trans hn (h b o n c e)
theorem Q5(n:Int)(h0:-9223372036854775808≤n)(h1:n≤9223372036854775807)(w:World)(hv:Vars w):Calls Tryz.prog 60 #[.int .i64 n] w fun e w'=>∃s:ByteArray,e=.returned (.string s)∧s.size≤100∧Below w.heap.size w w':=by
 refine (Tryz.strconv_Itoa n h0 h1 w hv.2.1).mono ?_;rintro e w' ⟨rfl,q,os,rfl⟩;refine⟨_,rfl,?_,kI w q os⟩;have:=Lib.itoa_length_le n (by omega) (by omega);simp only [ByteArray.size,List.size_toArray];omega
open Go.RowKit Rn
variable {F:Nat→Prop} {W0:World} {X:List (List Int)} {b:Nat} {p:Int} {sv:Value}
def Ji8(B:Nat)(q:Option Bk)(e:Ending)(w':World):Prop:=match q with
 | some b=>∃sv,e=.returned (.tuple #[.agg (b.cells sv).toArray,.nilIface])∧b.Wf∧BytesAt w' sv b.bytes∧Fresh B sv
 | none=>qj 13 (Bk.none.cells (.slice none 0 0)) e w'
theorem Jav{g:Pl.Gm}(h:¬((4≤p∧p≤4+g.s*g.l-1)∧JU (X.getD p.toNat [])=true)):bAt X g p=none:=if_neg h
theorem Jed{g:Pl.Gm}(h:(4≤p∧p≤4+g.s*g.l-1)∧JU (X.getD p.toNat [])=true):bAt X g p=some (Qb (X.getD p.toNat [])):=if_pos h
theorem zL{g:Pl.Gm}(hg:g.Ok)(p:Int)(hp0:-9223372036854775808≤p)(hp1:p≤9223372036854775807)(w:World)(hv:Vars w){d:De.D}(h:De.Dv W0 w b F d)(hLn:d.L.length≤1000000)(hX:Img d X)(ht:4+g.s*g.l≤(X.length:Int)):Calls Tryz.prog 89 #[.pointer (some ⟨b,0,none⟩),g.v,.int .i64 p] w fun e w'=>Ji8 w.heap.size (bAt X g p) e w'∧Below w.heap.size w w':=by
 have H:=Rn.St.start (Stays.below w) (Below.refl _ _);have HV:=Zh hv;have HD:=Zh h;have HLN:=Zh hLn;have HGO:=Zh hg;have HP0:=Zh hp0;have HP1:=Zh hp1;have HBK:Hid (4≤p∧p≤4+g.s*g.l-1→∃y,X.getD p.toNat []=y∧d.read p=(u8s y).toArray∧Sc y):=Zh fun hp=>by
  have hl:p.toNat<X.length:=by omega
  have:=(hX.read (i:=p.toNat) (y:=X[p.toNat]) (List.getElem?_eq_getElem hl)).1;rw [Int.toNat_of_nonneg (by omega)] at this;exact⟨_,by rw [List.getD_eq_getElem?_getD,List.getElem?_eq_getElem hl];rfl,this,hX.sc _ (List.getElem_mem hl)⟩
 clear hg h hLn hX ht hv hp0 hp1;go_enter Tryz.func89,Tryz.ntmps89;go_upto_region 0 with fail;refine Zl ?_;refine bx H ?_ (hns:=(Jg g).ns);clear H;intro g1 w1 H;refine al Fo.zero82b H ?_ (hns:=(Jv none_wf Jq).ns);clear H;intro g2 w2 H;refine tk (Value.nilIface) ?_;refine Zn ?_
 by_cases hp:4≤p∧p≤4+g.s*g.l-1
 · obtain⟨y,hy,hr,hs⟩:=HBK.out hp;have HP:=Zh hp;have HR:=Zh hr;have HSC:=Zh hs;have HY:=Zh hy;clear hp hy hr hs HBK;go_upto_region 1 with fail;refine Zl ?_;refine ldO (Jg g) H 0 ?_;refine tk (.int .i64 p) ?_;refine cl (Rn.of_in g HGO.out p HP.out _) H ?_;clear H;intro w3 H;refine tk (.tuple #[.int .i64 ((p-4)/g.l),.int .i64 ((p-4)%g.l),.bool true]) ?_;refine tk (.int .i64 ((p-4)/g.l)) ?_;refine tk (.int .i64 ((p-4)%g.l)) ?_;refine tk (.bool true) ?_;refine tk (.int .i64 ((p-4)/g.l)) ?_;refine tk (.int .i64 ((p-4)%g.l)) ?_;refine tk (.bool true) ?_;go_upto_region 2 with fail;refine Zl ?_;refine tk (.bool true) ?_;refine tk (.bool false) ?_;go_upto_region 4 with fail;refine Zl ?_;refine tk (.pointer (some ⟨b,0,none⟩)) ?_;refine tk (.int .i64 p) ?_;refine cl (by have:=De.ke (HD.below H.ex) HLN.out p;rw [HR.out] at this;exact this) H ?_;clear H;intro w4 H;refine tk (.tuple #[.agg (u8s y).toArray,.int .i64 (d.readE p)]) ?_;refine tk (.agg (u8s y).toArray) ?_;refine tk (.int .i64 (d.readE p)) ?_;refine al JQ H ?_ (hns:=(Qz (J1 64)).ns);clear H;intro g5 w5 H;refine stO (Qz HSC.length) (Ob.len (Qz HSC.length) (Qz (J1 64))) H 2 ?_;clear H;intro w5 H;refine tk (.int .i64 (d.readE p)) ?_;go_upto_region 5 with fail;refine Zl ?_;refine ldO (Qz HSC.length) H 2 ?_;refine J0 rfl fun K hK=>?_;go_simp;refine (kE y HSC.out _).mono ?_;rintro e w6 ⟨sv,rfl,hy,hb,hf⟩;have HFR:=Zh (Fresh.up hf H.sz);have HSO:=Zh (Bytes.sl hy);replace H:=H.slice hb hy hf;clear hy hb hf;refine hK _ _ (nm ?_);clear hK K;refine tk (.tuple #[.agg ((Qb y).arr sv),.int .u32 (ZB y),.int .i64 (Yc y)]) ?_;refine tk (.agg ((Qb y).arr sv)) ?_;refine tk (.int .u32 (ZB y)) ?_;refine tk (.int .i64 (Yc y)) ?_;refine al Fo.zero82b H ?_ (hns:=(Jv none_wf Jq).ns);clear H;intro g7 w7 H;refine stO (Jv (Y7 HSC.out) HSO.out) (Ob.len (Jv (Y7 HSC.out) HSO.out) (Jv none_wf Jq)) H 3 ?_;clear H;intro w7 H;refine tk (.int .u32 (ZB y)) ?_;refine tk (.int .i64 (Yc y)) ?_;refine Zn ?_;cases hb:JU y
   · have HE:Hid (Yc y=11):=Zh (J35 hb).2.2;have HB:=Zh hb;clear hb;go_upto_region 6 with fail;refine Zl ?_;refine tk (.int .i64 (Yc y)) ?_;refine tk (.bool true) ?_ (hr:=by go_simp;simp [HE.out]);go_upto_region 7 with fail;refine Zl ?_;refine Jh (ka _) rfl ?_;refine nm ?_;refine tk (.int .i64 p) ?_;refine J0 rfl fun K hK=>?_;go_simp;refine (Q5 p HP0.out HP1.out _ (HV.below (Nat.le_refl _) H.ex.1)).mono ?_;rintro e w8 ⟨sI,rfl,hsI,hb⟩;replace H:=H.call hb;clear hb;refine hK _ _ (nm ?_);clear hK K;refine tk (.string (⟨#[110,111,32,98,108,111,99,107,58,32,115,101,99,116,111,114,32]⟩++sI)) ?_ (hr:=by go_simp;omega);refine J0 rfl fun K hK=>?_;go_simp;refine (new_err 13 rfl _ _).mono ?_;rintro e w9 ⟨T9,d9,t9,s9,rfl,hc,hb⟩;replace H:=(H.call hb).chain hc;clear hc hb;refine hK _ _ (nm ?_);clear hK K;refine stO (Jv none_wf Jq) (Ob.len (Jv none_wf Jq) (Jv none_wf Jq)) H 1 ?_;clear H;intro w9 H;refine tk (.iface T9 d9) ?_;go_wp2_with fail
     refine Y6 (Jv none_wf Jq) H 1 rfl ⟨?_,H.ex.1.1⟩;rw [Jav (fun h=>by rw [HY.out,HB.out] at h;exact absurd h.2 (by decide))];exact⟨_,_,_,_,rfl,H.ex.2⟩
   · have HE:Hid (Yc y=0):=Zh (ZH hb).2.2;have HB:=Zh hb;clear hb;go_upto_region 6 with fail;refine Zl ?_;refine tk (.int .i64 (Yc y)) ?_;refine tk (.bool false) ?_ (hr:=by go_simp;simp [HE.out]);go_upto_region 8 with fail;refine Zl ?_;refine ldO (Jv (Y7 HSC.out) HSO.out) H 3 ?_;refine stO (Jv (Y7 HSC.out) HSO.out) (Ob.len (Jv (Y7 HSC.out) HSO.out) (Jv none_wf Jq)) H 1 ?_;clear H;intro w7 H;refine tk (Value.nilIface) ?_;go_wp2_with fail
     refine Y6 (Jv (Y7 HSC.out) HSO.out) H 1 rfl ⟨?_,H.ex.1⟩;rw [Jed ⟨HP.out,by rw [HY.out];exact HB.out⟩,HY.out];exact⟨sv,rfl,Y7 HSC.out,H.ex.2,HFR.out⟩
 · have HP:=Zh hp;clear hp HBK;go_upto_region 1 with fail;refine Zl ?_;refine ldO (Jg g) H 0 ?_;refine tk (.int .i64 p) ?_;refine cl (Rn.of_out g HGO.out p HP.out _) H ?_;clear H;intro w3 H;refine tk (.tuple #[.int .i64 0,.int .i64 0,.bool false]) ?_;refine tk (.int .i64 0) ?_;refine tk (.int .i64 0) ?_;refine tk (.bool false) ?_;refine tk (.int .i64 0) ?_;refine tk (.int .i64 0) ?_;refine tk (.bool false) ?_;go_upto_region 2 with fail;refine Zl ?_;refine tk (.bool false) ?_;refine tk (.bool true) ?_;go_upto_region 3 with fail;refine Zl ?_;refine Jh (ka _) rfl ?_;refine nm ?_;refine tk (.int .i64 p) ?_;refine J0 rfl fun K hK=>?_;go_simp;refine (Q5 p HP0.out HP1.out _ (HV.below (Nat.le_refl _) H.ex)).mono ?_;rintro e w4 ⟨sI,rfl,hsI,hb⟩;replace H:=H.call hb;clear hb;refine hK _ _ (nm ?_);clear hK K;refine tk (.string (⟨#[105,110,32,110,111,32,115,101,103,109,101,110,116,58,32,115,101,99,116,111,114,32]⟩++sI)) ?_ (hr:=by go_simp;omega);refine J0 rfl fun K hK=>?_;go_simp;refine (new_err 13 rfl _ _).mono ?_;rintro e w5 ⟨T5,d5,t5,s5,rfl,hc,hb⟩;replace H:=(H.call hb).chain hc;clear hc hb;refine hK _ _ (nm ?_);clear hK K;refine stO (Jv none_wf Jq) (Ob.len (Jv none_wf Jq) (Jv none_wf Jq)) H 1 ?_;clear H;intro w5 H;refine tk (.iface T5 d5) ?_;go_wp2_with fail
   refine Y6 (Jv none_wf Jq) H 1 rfl ⟨?_,H.ex.1⟩;rw [Jav (fun h=>by exact HP.out h.1)];exact⟨_,_,_,_,rfl,H.ex.2⟩
theorem J2c{b:Bk}(hb:b.Wf)(hs:IsSl sv)(w:World):Calls Tryz.prog 90 #[.agg (b.cells sv).toArray] w (Zr w (.int .i64 (qg b))):=by
 have H:=Rn.St.start (Stays.below w) (Below.refl _ _);have HW:=Zh hb;have HSO:=Zh hs;have H36:Hid ((b.cells sv)[36]? = some (.int .i64 b.prev)):=Zh (Bk.at36 hb sv);clear hb hs;go_enter Tryz.func90,Tryz.ntmps90;go_upto_region 0 with fail;refine Zl ?_;refine bx H ?_ (hns:=(Jv HW.out HSO.out).ns);clear H;intro g1 w1 H;refine tk (.int .i64 0) ?_;refine Zn ?_
 by_cases hk:b.kind=1
 · have HK:=Zh hk;clear hk;go_upto_region 1 with fail;refine Zl ?_;refine tk (.pointer (some ⟨g1,0,none⟩)) ?_;refine lc H 0 (0) ?_;refine tk (.bool true) ?_ (hr:=by go_simp;simp [HK.out]);go_upto_region 2 with fail;refine Zl ?_;refine tk (.int .i64 1) ?_;go_wp2_with fail
   go_ret;exact⟨by unfold qg;rw [if_pos HK.out];rfl,H.ex⟩
 · have HK:=Zh hk;clear hk;go_upto_region 1 with fail;refine Zl ?_;refine tk (.pointer (some ⟨g1,0,none⟩)) ?_;refine lc H 0 (0) ?_;refine tk (.bool false) ?_ (hr:=by go_simp;simp [HK.out]);go_upto_region 3 with fail;refine Zl ?_;refine tk (.pointer (some ⟨g1,36,none⟩)) ?_;refine lc H 0 (36) ?_ (hl:=H36.out);refine tk (.int .i64 b.prev) ?_;go_wp2_with fail
   go_ret;exact⟨by unfold qg;rw [if_neg HK.out];rfl,H.ex⟩
open Go.RowKit Rn
variable {B c g i j:Nat} {l:List Int} {sv tv:Value} {w w':World}
theorem zM(h:Below w.heap.size w w'):w.grownBy w' none:=⟨h.os,h.tape,h.output,h.size,fun k hk _=>h.block k hk⟩
theorem Y8(h:Only (fun k=>k=g) w w'):w.grownBy w' (some g):=⟨h.os,h.tape,h.output,h.size,fun k hk hne=>h.block k hk fun e=>hne (by rw [e])⟩
def Apr(row:Option Nat)(sv:Value):Prop:=∀k,sv.ownBlock=some k→row≠some k
theorem Apr.none(sv:Value):Apr Option.none sv:=fun k _ e=>by cases e
theorem OwnN.grow{row:Option Nat}(h:OwnN w B sv l)(hg:w.grownBy w' row)(hn:Apr row sv):OwnN w' B sv l:=by
 refine⟨h.1,?_⟩;rcases h.2 with hz|⟨g,cap,cur,e,hB,hgg,r⟩
 · exact .inl hz
 · exact .inr ⟨g,cap,cur,e,hB,(hg.block g (Array.getElem?_eq_some_iff.1 hgg).1 fun e2=>hn g (by rw [e];rfl) e2.symm).trans hgg,r⟩
theorem BytesAt.grow{row:Option Nat}(h:BytesAt w sv l)(hg:w.grownBy w' row)(hn:l≠[]→Apr row sv):BytesAt w' sv l:=by
 obtain⟨a,cap,e,hc⟩:=h;refine⟨a,cap,e,fun i x hx=>?_⟩;obtain⟨b,o,ha',hx2⟩:=hc i x hx;refine⟨b,o,ha',?_⟩;rw [←hx2];refine World.cell?_of_block (hg.block b (block_lt_of_cell hx2) fun e2=>hn (fun h0=>by rw [h0] at hx;simp at hx) b (by rw [e,ha'];rfl) e2.symm)
theorem J3v{m:List Int}(h:OwnN w B sv l)(hB:B≤w.heap.size)(k:IntsAt w tv m)(hlen:l.length+m.length≤1000000)(ty:TypeId) :
 ∃sv' w',(Builtin.append_ #[41,41] ty #[sv,tv]).run Tryz.prog w=.ok sv' w'∧OwnN w' B sv' (l++m)∧w.grownBy w' sv.ownBlock∧(sv'.ownBlock=sv.ownBlock∨sv'.ownBlock=some w.heap.size):=by
 obtain⟨i,hi,hz,hs,hby⟩:=J4f;cases m with
 | nil =>
  have hsl:∃a c,sv=.slice a l.length c∧l.length≤c:=by
   rcases h.2 with ⟨e,h0⟩|⟨g,cap,cur,e,_,_,hn,_⟩
   · exact⟨none,0,by rw [e,h0],by omega⟩
   · exact⟨_,cap,e,hn⟩
  obtain⟨a,c,rfl,hle⟩:=hsl;obtain⟨ta,tc,rfl,_⟩:=k;refine⟨_,w,run_append_nothing w 41 41 ty 3 i Tryz.underlying41 hi a l.length c hle _ ⟨.inl ⟨3,Tryz.underlying41⟩,fun _=>by rfl,?_,?_,by simp,fun u hu=>by cases hu⟩,by rw [List.append_nil];exact h,⟨rfl,rfl,rfl,Nat.le_refl _,fun _ _ _=>rfl⟩,.inl rfl⟩
  · cases ta <;> simp [Builtin.firstCells,hs,loadCells,loadCellsFrom]
  · cases ta <;> simp [Builtin.firstCells,hs,loadCells,loadCellsFrom]
 | cons x m =>
  obtain⟨b,o,c,rfl,hc⟩:=k.has (by simp);obtain⟨v',w',hr,h2,h3,_,h5⟩:=run_append_own_at (P:=Tryz.prog) (w:=w) B 41 ty 3 i (.int .i64 0) 1 8 Tryz.underlying41 hi hz hs hby rfl (by decide) sv l.length (Js l) h ⟨b,o,none⟩ (x::m).length c (Js (x::m)) (by simp) (fun j u hu=>by
   rw [List.getElem?_map] at hu
   cases hz:(x::m)[j]? with
   | none=>simp [hz] at hu
   | some z =>
    simp [hz] at hu
    subst hu
    rw [show (⟨b,o,none⟩:Addr).add j=⟨b,o+j,none⟩ by unfold Addr.add;split <;> simp_all]
    exact hc j z hz) (fun u hu=>by obtain⟨z,_,rfl⟩:=List.mem_map.1 hu;rfl) (by simp only [maxLen];omega) (by omega) hB
  refine⟨v',w',hr,?_,h3,h5⟩;unfold OwnN;rw [List.length_append,show Js (l++x::m)=Js l++Js (x::m) by simp];exact h2
theorem zN{l:List (Bk×Value)}(h:∀x∈l,x.1.Wf)(hj:j<45):(Fo.QS l)[i*45+j]? = (l[i]?).bind fun x=>(x.1.cells x.2)[j]? := by
 induction l generalizing i with
 | nil=>simp [Fo.QS]
 | cons x r ih =>
  have hl:=x.1.cells_length (h x (by simp)) x.2;have ih:=fun {i}=>ih (i:=i) fun y hy=>h y (List.mem_cons_of_mem _ hy);simp only [Fo.QS,List.flatMap_cons] at ih ⊢;cases i with
  | zero =>
   rw [Nat.zero_mul,Nat.zero_add,List.getElem?_append_left (by omega)];rfl
  | succ i =>
   rw [List.getElem?_append_right (by omega),hl,show (i+1)*45+j-45=i*45+j by omega,ih];rfl
theorem info82a:(Tryz.prog.info? 82).map (fun i=>(i.size,i.bytes))=some (45,152):=by kernel_rfl
theorem inf82:∃i,Tryz.prog.info? 82=some i∧i.zero=some (.agg (Bk.none.arr (.slice none 0 0)))∧i.size=45∧i.bytes=152:=by
 have h1:=info82a;have h2:=Fo.zero82b;cases hq:Tryz.prog.info? 82 with
 | none=>simp [hq] at h1
 | some i=>simp [hq] at h1 h2;exact⟨i,rfl,h2,h1⟩
theorem Jaw(w:World)(b:Bk)(bv:Value)(hb:b.Wf):(Instr.buildSlice 95 1 #[(0,.agg (b.cells bv).toArray)]).run Tryz.prog w=.ok (.slice (some ⟨w.heap.size,0,none⟩) 1 1) (w.alloc (.cells (b.cells bv).toArray 82)):=by
 obtain⟨i,hi,hz,hs,-⟩:=inf82;have hl:(b.cells bv).toArray.size=45:=by rw [List.size_toArray];exact b.cells_length hb bv
 exact De.Xl w 95 82 i _ _ Tryz.underlying95 hi hz (by omega) (by omega) (by omega)
theorem Jax(w:World)(v:Int):(Instr.buildSlice 41 1 #[(0,.int .i64 v)]).run Tryz.prog w=.ok (.slice (some ⟨w.heap.size,0,none⟩) 1 1) (w.alloc (.cells #[.int .i64 v] 3)):=by
 obtain⟨i,hi,hz,hs,-⟩:=J4f;refine Go.run_buildSlice (P:=Tryz.prog) w 41 3 1 _ #[.int .i64 v] i _ Tryz.underlying41 hi hz (by rw [hs];omega) (by rw [hs];omega) ?_;rw [hs]
 first|kernel_rfl|simp [Instr.fill,Value.cells]
structure BkR (w:World) (B:Nat) (sv:Value) (l:List (Bk×Value)):Prop where
 row:w.ownsRow B 82 45 sv l.length (Fo.QS l)
 all:∀x∈l,x.1.Wf∧IsSl x.2∧BytesAt w x.2 x.1.bytes∧(x.1.bytes≠[]→Apr sv.ownBlock x.2)
theorem BkR.nil(w:World)(B:Nat):BkR w B (.slice none 0 0) []:=⟨World.ownsRow_nil w B 82 45,fun x hx=>by cases hx⟩
theorem BkR.lt{l:List (Bk×Value)}(h:BkR w B sv l):∀k,sv.ownBlock=some k→B≤k∧k<w.heap.size:=World.ownsRow.lt h.row
theorem BkR.grow{l:List (Bk×Value)}{row:Option Nat}(h:BkR w B sv l)(hg:w.grownBy w' row)(hn:Apr row sv)(hx:∀x∈l,x.1.bytes≠[]→Apr row x.2):BkR w' B sv l:=by
 refine⟨⟨h.row.1,?_⟩,fun x hm=>?_⟩
 · rcases h.row.2 with hz|⟨g,cap,cur,e,hB,hgg,r⟩
   · exact .inl hz
   · exact .inr ⟨g,cap,cur,e,hB,(hg.block g (Array.getElem?_eq_some_iff.1 hgg).1 fun e2=>hn g (by rw [e];rfl) e2.symm).trans hgg,r⟩
 · obtain⟨h1,h2,h3,h4⟩:=h.all x hm;exact⟨h1,h2,BytesAt.grow h3 hg (hx x hm),h4⟩
theorem BkR.blks{l:List (Bk×Value)}(h:BkR w B sv l):Fo.BlksAt w sv l:=by
 have hr:=h.row;rcases hr.2 with ⟨rfl,h0⟩|⟨g,cap,cur,rfl,hb,hg,hn,hm,hs,ht⟩
 · have:l=[]:=List.eq_nil_of_length_eq_zero h0;subst this;exact Fo.BlksAt.nil _ _ _
 · refine⟨_,cap,rfl,fun i x hx=>?_⟩;obtain⟨h1,-,h2,-⟩:=h.all x (List.mem_of_getElem? hx);refine⟨h1,h2,g,0,rfl,fun j hj=>?_⟩;have hi:=(List.getElem?_eq_some_iff.1 hx).1;rw [Bk.arr_size h1] at hj;rw [Nat.zero_add,World.ownsRow.cellAt hr (i*45+j) (by omega),zN (fun y hy=>(h.all y hy).1) hj,hx];show (x.1.cells x.2)[j]? = _;rw [List.getElem?_eq_getElem (by rw [Bk.cells_length h1];exact hj)];rfl
theorem Jee{q:Nat}{bv:Value}{l:List (Bk×Value)}{b:Bk}(h:BkR w B sv l)(hB:B≤w.heap.size)(hb:b.Wf)(hs:IsSl bv)(hq:Blk w q (b.cells bv))(hy:BytesAt w bv b.bytes)(hn:b.bytes≠[]→Apr sv.ownBlock bv)(hlen:l.length≤100)(ty:TypeId) :
 ∃sv' w',(Builtin.append_ #[95,95] ty #[sv,.slice (some ⟨q,0,none⟩) 1 c]).run Tryz.prog w=.ok sv' w'∧BkR w' B sv' (l++[(b,bv)])∧w.grownBy w' sv.ownBlock∧(sv'.ownBlock=sv.ownBlock∨sv'.ownBlock=some w.heap.size):=by
 obtain⟨i,hi,hz,hs2,hby⟩:=inf82;have hl:=b.cells_length hb bv;obtain⟨v',w',hr,h2,h3,_,h5⟩:=run_append_own_at (P:=Tryz.prog) (w:=w) B 95 ty 82 i (.agg (Bk.none.arr (.slice none 0 0))) 45 152 Tryz.underlying95 hi hz hs2 hby (Bk.arr_size none_wf _) (by decide) sv l.length (Fo.QS l) h.row ⟨q,0,none⟩ 1 c (b.cells bv) (by omega) (fun j u hu=>by
  rw [show (⟨q,0,none⟩:Addr).add j=⟨q,j,none⟩ by unfold Addr.add;split <;> simp_all]
  exact hq.cell hu) (fun v hv=>Bk.arr_one hs.one v (by simpa [Bk.arr] using hv)) (by simp only [maxLen];omega) (by omega) hB
 have hap:∀(x:Bk×Value),BytesAt w x.2 x.1.bytes→(x.1.bytes≠[]→Apr sv.ownBlock x.2)→(x.1.bytes≠[]→Apr v'.ownBlock x.2):=fun x hx k h0=>by
  rcases h5 with e|e
  · rw [e];exact k h0
  · rw [e];intro n hn2 e2;cases e2;obtain⟨b0,o0,c0,e3,-⟩:=hx.has (List.length_pos_iff.2 h0);rw [e3] at hn2;have:=hx.lt (List.length_pos_iff.2 h0) e3;cases hn2;exact absurd this (Nat.lt_irrefl _)
 refine⟨v',w',hr,⟨?_,fun x hm=>?_⟩,h3,h5⟩
 · rw [List.length_append,List.length_singleton,show Fo.QS (l++[(b,bv)])=Fo.QS l++b.cells bv by simp [Fo.QS]];exact h2
 · rcases List.mem_append.1 hm with hm|hm
   · obtain⟨q1,q2,q3,q4⟩:=h.all x hm;exact⟨q1,q2,BytesAt.grow q3 h3 q4,hap x q3 q4⟩
   · obtain rfl:=List.mem_singleton.1 hm;exact⟨hb,hs,BytesAt.grow hy h3 hn,hap (b,bv) hy hn⟩
theorem zO{C:Nat}{m:List (Bk×Value)}(h:OwnN w B sv l)(k:BkR w C tv m):Apr sv.ownBlock tv∧Apr tv.ownBlock sv:=by
 have h1:=X4 h;have h2:=X4 k.row;have hne:∀i,sv.ownBlock=some i→tv.ownBlock=some i→False:=fun i a b=>by
  obtain⟨c1,f1,e1⟩:=h1 i a;obtain⟨c2,f2,e2⟩:=h2 i b;rw [e1] at e2;cases e2
 exact⟨fun i a b=>hne i b a,fun i a b=>hne i a b⟩
section
variable {P:Program} {o:Oper} {a:Act} {w:World} {K:Act→World→Prop} {Q:Exit→Act→World→Prop}
theorem J2d(x:Operand)(v:Int)(d:Tmp)(hd:o.dst=some d)(ho:o.op=.buildSlice 41 1 #[(0,x)])(hx:a.eval x=.int .i64 v)(hh:∀g w',w.heap.size=g→Blk w' g [.int .i64 v]→Below w.heap.size w w'→g<w'.heap.size→K (a.put (some d) (.slice (some ⟨g,0,none⟩) 1 1)) w'):o.wp Tryz.prog a w K Q:=by
 have hr:(Instr.buildSlice 41 1 #[(0,.int .i64 v)]).run Tryz.prog w=.ok (.slice (some ⟨w.heap.size,0,none⟩) 1 1) (w.alloc (.cells #[.int .i64 v] 3)):=Jax w v;exact Jb (some d) hd _ _ (JT _ _ a.eval _ 41 1 _ ho #[(0,.int .i64 v)] (by simp [hx]) _ hr) (hh _ _ rfl (Blk.new w _ _) ((Below.refl _ _).alloc (Nat.le_refl _) _) (by simp))
theorem J2e{b:Bk}{bv:Value}(hb:b.Wf)(x:Operand)(d:Tmp)(hd:o.dst=some d)(ho:o.op=.buildSlice 95 1 #[(0,x)])(hx:a.eval x=.agg (b.cells bv).toArray)(hh:∀g w',w.heap.size=g→Blk w' g (b.cells bv)→Below w.heap.size w w'→g<w'.heap.size→K (a.put (some d) (.slice (some ⟨g,0,none⟩) 1 1)) w'):o.wp Tryz.prog a w K Q :=
 Jb (some d) hd _ _ (JT _ _ a.eval _ 95 1 _ ho #[(0,.agg (b.cells bv).toArray)] (by simp [hx]) _ (Jaw w b bv hb)) (hh _ _ rfl (Blk.new w _ _) ((Below.refl _ _).alloc (Nat.le_refl _) _) (by simp))
end
open Go.RowKit Rn
variable {A:Nat→Prop} {B N c g k:Nat} {E:World→Prop} {K:Act→World→Prop} {L:List Value} {P:Program} {Q:Exit→Act→World→Prop} {V:List (Nat×List Value)} {W w w':World} {a:Act} {l:List Int} {o:Oper} {sv:Value}
theorem YY{c a b:Prop}[Decidable c](h:c)(k:a):if c then a else b:=by rw [if_pos h];exact k
theorem ju(dst:Option Tmp)(hd:o.dst=dst)(w':World)(hr:(execOp a.eval o).run P w=.ok .skip w')(h:K (a.put dst undef) w'):o.wp P a w K Q:=by
 subst hd;unfold Oper.wp;rw [hr];exact h
def RwA(pv bv:Value)(lb:List (Bk×Value))(k:Nat):Prop:=pv.ownBlock=some k∨bv.ownBlock=some k∨∃x∈lb,x.1.bytes≠[]∧x.2.ownBlock=some k
theorem xj(h:BytesAt w sv l)(h0:l≠[])(hk:sv.ownBlock=some k):k<w.heap.size:=by
 obtain⟨b,o,c,e,-⟩:=h.has (List.length_pos_iff.2 h0);have:=h.lt (List.length_pos_iff.2 h0) e;rw [e] at hk;cases hk;exact this
theorem Stays.rows{pv bv:Value}{ps:List Int}{lb:List (Bk×Value)}:Stays N (RwA pv bv lb) fun u=>OwnN u B pv ps∧BkR u B bv lb:=by
 refine⟨fun u u' _ he hb=>⟨he.1.below hb,he.2.grow (zM hb) (Apr.none _) fun x _ _=>Apr.none _⟩,fun g hg ha v v' hv _ ho=>⟨hv.1.grow (Y8 ho) ?_,hv.2.grow (Y8 ho) ?_ ?_⟩,fun u hu k hk=>?_⟩
 · intro k hk e;cases e;exact ha (.inl hk)
 · intro k hk e;cases e;exact ha (.inr (.inl hk))
 · intro x hx h0 k hk e;cases e;exact ha (.inr (.inr ⟨x,hx,h0,hk⟩))
 · rcases hk with hk|hk|⟨x,hx,h0,hk⟩
   · exact (hu.1.lt k hk).2
   · exact (hu.2.lt k hk).2
   · exact xj (hu.2.all x hx).2.2.1 h0 hk
theorem St.add{A2:Nat→Prop}{F:World→Prop}(h:Rn.St N A E V w)(hF:F w)(hs:Stays N A2 F)(hd:∀p∈V,¬A2 p.1):Rn.St N (fun k=>A k∨A2 k) (fun u=>E u∧F u) V w :=
 ⟨h.sz,h.blk,h.ge,h.nd,⟨h.ex,hF⟩,h.st.both hs,fun i g L hi hk=>hk.elim (h.av i g L hi) (hd _ (List.mem_of_getElem? hi)),h.ns⟩
theorem Stays.own:Stays N (fun k=>sv.ownBlock=some k) fun u=>OwnN u B sv l :=
 ⟨fun u u' _ he hb=>he.below hb,fun g _ ha v v' hv _ ho=>hv.grow (Y8 ho) fun k hk e=>by cases e;exact ha hk,fun u hu k hk=>(hu.lt k hk).2⟩
theorem St.owns(h:Rn.St N A E V w)(hb:Below w.heap.size w w')(hy:OwnN w' w.heap.size sv l):Rn.St N (fun k=>A k∨sv.ownBlock=some k) (fun u=>E u∧OwnN u w.heap.size sv l) V w':=by
 have k:=h.call hb;exact⟨k.sz,k.blk,k.ge,k.nd,⟨k.ex,hy⟩,h.st.both Stays.own,fun i g L hi ho=>ho.elim (h.av i g L hi) fun ho=>absurd (h.blk i g L hi).lt (Nat.not_lt.2 (hy.lt g ho).1),h.ns⟩
abbrev FB(W:World)(B:Nat)(u:World):Prop:=Below W.heap.size W u∧B≤u.heap.size
theorem Stays.fb(W:World)(B:Nat):Stays W.heap.size (fun _=>False) (FB W B):=(Stays.below W).and ⟨fun u u' _ he hb=>Nat.le_trans he hb.size,fun g _ _ v v' hv _ ho=>Nat.le_trans hv ho.size,fun _ _ _ h=>h.elim⟩
abbrev FE(W:World)(B:Nat)(pv bv:Value)(ps:List Int)(lb:List (Bk×Value))(u:World):Prop:=FB W B u∧OwnN u B pv ps∧BkR u B bv lb
abbrev FA(pv bv:Value)(lb:List (Bk×Value))(k:Nat):Prop:=False∨RwA pv bv lb k
structure FolR (W:World) (B:Nat) (pv bv:Value) (ps:List Int) (lb:List (Bk×Value)) (V:List (Nat×List Value)) (w:World):Prop where
 st:Rn.St W.heap.size (FA pv bv lb) (FE W B pv bv ps lb) V w
 ap:∀x∈lb,x.1.bytes≠[]→Apr pv.ownBlock x.2
 bw:W.heap.size≤B
theorem FolR.start(h:Rn.St W.heap.size (fun _=>False) (fun u=>Below W.heap.size W u) V w):FolR W w.heap.size (.slice none 0 0) (.slice none 0 0) [] [] V w:=by
 have h2:Rn.St W.heap.size (fun _=>False) (FB W w.heap.size) V w:=⟨h.sz,h.blk,h.ge,h.nd,⟨h.ex,Nat.le_refl _⟩,Stays.fb _ _,h.av,h.ns⟩
 refine⟨St.add h2 ⟨OwnN.nil _ _,BkR.nil _ _⟩ Stays.rows fun p _ hk=>?_,(fun x hx=>by cases hx),h.sz⟩;rcases hk with hk|hk|⟨x,hx,-⟩
 · cases hk
 · cases hk
 · cases hx
theorem FolR.again{pv bv:Value}{ps:List Int}{lb:List (Bk×Value)}{V':List (Nat×List Value)}(h:FolR W B pv bv ps lb V w)(hs:Rn.St W.heap.size (FA pv bv lb) (FE W B pv bv ps lb) V' w'):FolR W B pv bv ps lb V' w':=⟨hs,h.ap,h.bw⟩
structure FolS (W:World) (B:Nat) (pv bv:Value) (ps:List Int) (lb:List (Bk×Value)) (b:Bk) (sv:Value) (V:List (Nat×List Value)) (w:World):Prop where
 st:Rn.St W.heap.size (fun k=>FA pv bv lb k∨(b.bytes≠[]∧sv.ownBlock=some k)) (fun u=>FE W B pv bv ps lb u∧BytesAt u sv b.bytes) V w
 ap:∀x∈lb,x.1.bytes≠[]→Apr pv.ownBlock x.2
 s1:b.bytes≠[]→Apr pv.ownBlock sv
 s2:b.bytes≠[]→Apr bv.ownBlock sv
 bw:W.heap.size≤B
theorem FolR.slice{pv bv:Value}{ps:List Int}{lb:List (Bk×Value)}{b:Bk}(h:FolR W B pv bv ps lb V w)(hb:Below w.heap.size w w')(hy:BytesAt w' sv b.bytes)(hf:Fresh w.heap.size sv):FolS W B pv bv ps lb b sv V w':=by
 have hk:b.bytes≠[]→∀k,sv.ownBlock=some k→w.heap.size≤k:=fun h0 k hk=>by
  obtain⟨b',o,c,e,-⟩:=hy.has (List.length_pos_iff.2 h0);rw [e] at hk;cases hk;exact hf _ o _ c e
 exact⟨h.st.slice hb hy hf,h.ap,fun h0 k hs e=>by have:=(h.st.ex.2.1.lt k e).2;have:=hk h0 k hs;omega,fun h0 k hs e=>by have:=(h.st.ex.2.2.lt k e).2;have:=hk h0 k hs;omega,h.bw⟩
section
variable {W:World} {B:Nat} {pv bv:Value} {ps:List Int} {lb:List (Bk×Value)} {b:Bk} {sv:Value} {V:List (Nat×List Value)} {o:Oper} {a:Act} {w:World} {K:Act→World→Prop} {Q:Exit→Act→World→Prop}
theorem FolS.again{V':List (Nat×List Value)}(h:FolS W B pv bv ps lb b sv V w)(hs:Rn.St W.heap.size (fun k=>FA pv bv lb k∨(b.bytes≠[]∧sv.ownBlock=some k)) (fun u=>FE W B pv bv ps lb u∧BytesAt u sv b.bytes) V' w'):FolS W B pv bv ps lb b sv V' w':=⟨hs,h.ap,h.s1,h.s2,h.bw⟩
theorem FolS.new(h:FolS W B pv bv ps lb b sv V w)(hns:∀v∈L,∀t,v≠.string t)(hg:w.heap.size=g)(hA:Blk w' g L)(hb:Below w.heap.size w w'):FolS W B pv bv ps lb b sv (V++[(g,L)]) w':=by
 subst hg;exact h.again (h.st.new hns hA hb)
theorem FolS.app1(h:FolS W B pv bv ps lb b sv V w)(j:Nat){gl:Nat}{x:Int}(hV:V[j]? = some (gl,[.int .i64 x]))(hlen:ps.length≤100)(p q:Operand)(d:Tmp)(hd:o.dst=some d)(ho:o.op=.call { callee:=.builtin .append,args:=#[p,q],argTypes:=#[41,41] })(hp:a.eval p=pv)(hq:a.eval q=.slice (some ⟨gl,0,none⟩) 1 c)(k:∀pv' w',FolS W B pv' bv (ps++[x]) lb b sv V w'→K (a.put (some d) pv') w'):o.wp Tryz.prog a w K Q:=by
 have hi:IntsAt w (.slice (some ⟨gl,0,none⟩) 1 c) [x]:=⟨_,c,rfl,fun i z hz=>by
  cases i with
  | zero =>
   simp at hz
   subst hz
   exact⟨gl,0,rfl,(h.st.blk j gl _ hV).cell rfl⟩
  | succ i=>simp at hz⟩
 obtain⟨pv',w',hr,hO,hg,hor⟩:=J3v h.st.ex.1.2.1 h.st.ex.1.1.2 hi (by simp;omega) o.type;refine Jb (some d) hd pv' w' (KR a.eval o p q 41 41 ho pv _ pv' hp hq hr) (k pv' w' ?_);have hlt:=h.st.ex.1.2.1.lt;have hrw:=zO h.st.ex.1.2.1 h.st.ex.1.2.2;have hin:∀k,pv'.ownBlock=some k→pv.ownBlock=some k∨k=w.heap.size:=fun k hk=>by
  rcases hor with e|e
  · exact .inl (e ▸ hk)
  · rw [e] at hk;cases hk;exact .inr rfl
 have hnew:∀{s:Value} {l:List Int},BytesAt w s l→(l≠[]→Apr pv.ownBlock s)→l≠[]→Apr pv'.ownBlock s:=fun hy hs h0 k hk e=>by
  rcases hin k e with e|e
  · exact hs h0 k hk e
  · have:=xj hy h0 hk;omega
 have hE:FE W B pv' bv (ps++[x]) lb w'∧BytesAt w' sv b.bytes :=
  ⟨⟨⟨h.st.ex.1.1.1.trans (K4 hg h.st.sz fun k hk=>by have:=(hlt k hk).1;have:=h.bw;omega),Nat.le_trans h.st.ex.1.1.2 hg.size⟩,hO,h.st.ex.1.2.2.grow hg hrw.1 h.ap⟩,BytesAt.grow h.st.ex.2 hg h.s1⟩
 refine⟨⟨Nat.le_trans h.st.sz hg.size,fun i g L hi=>(h.st.blk i g L hi).of_block (hg.block g (h.st.blk i g L hi).lt fun e=>h.st.av i g L hi (.inl (.inr (.inl e.symm)))),h.st.ge,h.st.nd,hE,((Stays.fb W B).both Stays.rows).both Stays.bytes,fun i g L hi hk=>?_,h.st.ns⟩,fun x hx h0=>hnew (h.st.ex.1.2.2.all x hx).2.2.1 (h.ap x hx) h0,hnew h.st.ex.2 h.s1,h.s2,h.bw⟩;have hav:=h.st.av i g L hi;rcases hk with (hk|hk|hk|hk)|hk
 · exact hk.elim
 · rcases hin g hk with e|e
   · exact hav (.inl (.inr (.inl e)))
   · have:=(h.st.blk i g L hi).lt;omega
 · exact hav (.inl (.inr (.inr (.inl hk))))
 · exact hav (.inl (.inr (.inr (.inr hk))))
 · exact hav (.inr hk)
theorem FolS.app2(h:FolS W B pv bv ps lb b sv V w)(hb:b.Wf)(hs:IsSl sv)(j:Nat){gb:Nat}(hV:V[j]? = some (gb,b.cells sv))(hlen:lb.length≤100)(p q:Operand)(d:Tmp)(hd:o.dst=some d)(ho:o.op=.call { callee:=.builtin .append,args:=#[p,q],argTypes:=#[95,95] })(hp:a.eval p=bv)(hq:a.eval q=.slice (some ⟨gb,0,none⟩) 1 c)(k:∀bv' w',FolR W B pv bv' ps (lb++[(b,sv)]) V w'→K (a.put (some d) bv') w'):o.wp Tryz.prog a w K Q:=by
 obtain⟨bv',w',hr,hO,hg,hor⟩:=Jee (c:=c) h.st.ex.1.2.2 h.st.ex.1.1.2 hb hs (h.st.blk j gb _ hV) h.st.ex.2 h.s2 hlen o.type;refine Jb (some d) hd bv' w' (KR a.eval o p q 95 95 ho bv _ bv' hp hq hr) (k bv' w' ?_);have hlt:=h.st.ex.1.2.2.lt;have hrw:=zO h.st.ex.1.2.1 h.st.ex.1.2.2;have hE:FE W B pv bv' ps (lb++[(b,sv)]) w' :=
  ⟨⟨h.st.ex.1.1.1.trans (K4 hg h.st.sz fun k hk=>by have:=(hlt k hk).1;have:=h.bw;omega),Nat.le_trans h.st.ex.1.1.2 hg.size⟩,h.st.ex.1.2.1.grow hg hrw.2,hO⟩
 refine⟨⟨Nat.le_trans h.st.sz hg.size,fun i g L hi=>(h.st.blk i g L hi).of_block (hg.block g (h.st.blk i g L hi).lt fun e=>h.st.av i g L hi (.inl (.inr (.inr (.inl e.symm))))),h.st.ge,h.st.nd,hE,(Stays.fb W B).both Stays.rows,fun i g L hi hk=>?_,h.st.ns⟩,fun x hx h0=>?_,h.bw⟩
 · have hav:=h.st.av i g L hi;rcases hk with hk|hk|hk|⟨x,hx,h0,hk⟩
   · exact hk.elim
   · exact hav (.inl (.inr (.inl hk)))
   · rcases hor with e|e
     · exact hav (.inl (.inr (.inr (.inl (e ▸ hk)))))
     · rw [e] at hk;cases hk;exact absurd (h.st.blk i _ L hi).lt (Nat.lt_irrefl _)
   · rcases List.mem_append.1 hx with hx|hx
     · exact hav (.inl (.inr (.inr (.inr ⟨x,hx,h0,hk⟩))))
     · obtain rfl:=List.mem_singleton.1 hx;exact hav (.inr ⟨h0,hk⟩)
 · rcases List.mem_append.1 hx with hx|hx
   · exact h.ap x hx h0
   · obtain rfl:=List.mem_singleton.1 hx;exact h.s1 h0
end
theorem YD{p0 pv:Value}(h:Rn.St N A E V w)(i:Nat)(hi:V[i]? = some (g,chC p0 l))(hs:IsSl pv)(hl:l.length=32)(hh:∀w',Rn.St N A E (V.set i (g,chC pv l)) w'→K (a.put none undef) w')(hd:o.dst=none:=by rfl)(r:w.cell? ⟨g,0,none⟩=some p0→w.frozen? ⟨g,0,none⟩=false→(execOp a.eval o).run Tryz.prog w=.ok .skip (w.setCell ⟨g,0,none⟩ pv):=by intro hq hf;go_simp):Oper.wp Tryz.prog o a w K Q :=
 have hb:=h.blk i _ _ hi
 ju none hd (w.setCell ⟨g,0,none⟩ pv) (r (hb.cell rfl) (hb.frozen 0)) (hh _ (h.put i hi (Ks hs hl).ns (hb.set 0 pv) ((Only.refl (fun k=>k=g) w).setCell (p:=⟨g,0,none⟩) (.inl rfl) pv)))
open Go.RowKit Rn
def Jay(B:Nat)(q:Option (List (Int×Bk)))(e:Ending)(w':World):Prop:=match q with
 | some l=>∃sv,e=.returned (.tuple #[.agg (chC sv (Fo.comes (l.map (·.2)))).toArray,.nilIface])∧OwnN w' B sv (l.map (·.1))
 | none=>qj 13 chZ e w'
theorem Fol.small{X:List (List Int)}{g:Pl.Gm}{id head h:Int}{l:List (Int×Bk)}{b:Bk}(hb:b.Wf):Jk (qg b):=by
 unfold qg;split
 · exact⟨by decide,by decide⟩
 · exact hb.prev
theorem YE{L:List Bk}(w:∀b∈L,b.Wf):(Fo.jX L).length=32:=by
 unfold Fo.jX;split
 · exact (Fo.ZU ‹_› w).length
 · exact J1 32
theorem qk{X:List (List Int)}{g:Pl.Gm}(hg:g.Ok)(id head:Int)(hh:Jk head)(w:World)(hv:Vars w){W0:World}{b:Nat}{F:Nat→Prop}{d:De.D}(hd:De.Dv W0 w b F d)(hLn:d.L.length≤1000000)(hX:Img d X)(ht:4+g.s*g.l≤(X.length:Int)):Calls Tryz.prog 58 #[.pointer (some ⟨b,0,none⟩),g.v,.int .i64 id,.int .i64 head] w fun e w'=>Jay w.heap.size (Jm X g id 3 head) e w'∧Below w.heap.size w w':=by
 have H:=Rn.St.start (Stays.below w) (Below.refl _ _);have HV:=Zh hv;have HB:Hid (∀p w',Jk p→Below w.heap.size w w'→Calls Tryz.prog 89 #[.pointer (some ⟨b,0,none⟩),g.v,.int .i64 p] w' fun e w2=>Ji8 w'.heap.size (bAt X g p) e w2∧Below w'.heap.size w' w2):=Zh fun p w' hp hb=>zL hg p (by have:=hp.1;omega) (by have:=hp.2;omega) w' (hv.below (Nat.le_refl _) hb) (hd.below hb) hLn hX ht;have HF0:=Zh (Fol.start X g id head);have HS0:=Zh hh;clear hg hd hLn hX ht hv hh;go_enter Tryz.func58,Tryz.ntmps58;go_upto_region 0 with fail;refine Zl ?_;refine bx H ?_ (hns:=(Jg g).ns);clear H;intro g1 w1 H;refine al Kc H ?_ (hns:=chz_ob.ns);clear H;intro g2 w2 H;refine tk (Value.nilIface) ?_;go_upto_region 1 with fail;refine Zl ?_;refine al Kc H ?_ (hns:=chz_ob.ns);clear H;intro g3 w3 H;go_upto_region 2 with fail;refine Zl ?_;refine tk (.slice none 0 0) ?_;go_upto_region 3 with fail;refine Zl ?_;refine tk (.int .i64 head) ?_;refine tk (.int .i64 head) ?_;refine Zn ?_;have HR:=FolR.start H;obtain⟨B,hB⟩:∃B,w3.heap.size=B:=⟨_,rfl⟩
 rw [hB] at HR;clear H hB
 go_wp2_with fail
 go_loopg [11,12] 3 (fun q bl hd wr=>∃l lb h pv bv,3-l.length≤q∧Fol X g id head l h∧Jk h∧bv=bl∧hd=.int .i64 h∧lb.map (·.1)=l.map (·.2)∧FolR w B pv bv (l.map (·.1)) lb [(g1,[.int .i64 g.p,.int .i64 g.s,.int .i64 g.l,.int .i64 g.f]),(g2,chZ),(g3,chC pv (zeros 32))] wr)
 case atStart=>exact⟨[],[],head,_,_,by simp,HF0.out,HS0.out,rfl,rfl,rfl,HR⟩
 case round =>
  clear HR HF0 HS0;obtain⟨l,lb,h,pv,bv,hq,hf,hsm,rfl,rfl,hlb,HR⟩:=hrel;have HF:=Zh hf;have HSM:=Zh hsm;have HLB:=Zh hlb;obtain⟨n,hn⟩:∃n,l.length=n:=⟨_,rfl⟩
  have HN:=Zh hn;have hn3:n≤3:=by have:=hf.few;omega
  have HN3:=Zh hn3;have HQ:=Zh hq;have hsl:∃a c,bv=.slice a n c:=by
   obtain⟨a,c,e,-⟩:=HR.st.ex.2.2.blks;have e2:lb.length=n:=by have:=congrArg List.length hlb;simpa [hn] using this
   exact⟨a,c,by rw [e,e2]⟩
  obtain⟨ba,bc,rfl⟩:=hsl;have HPS:=Zh HR.st.ex.2.1.sl;clear hf hsm hlb hn hq hn3
  by_cases h1:h=1
  · have HC:=Zh (HF.stop h1);have H1:=Zh h1;obtain⟨hto,hco⟩:=XA HC.out;have HCD:=Zh hco;have HTO:=Zh hto;have HTL:Hid ((Fo.jX (l.map (·.2))).length=32):=Zh (YE (HLB.out ▸ HR.st.ex.2.2.blks.wf));have HBW:=Zh HR.bw;have H:=HR.st;clear HR h1 hto hco;go_upto_region 4 with fail;refine Zl ?_;refine tk (.int .i64 h) ?_;refine tk (.bool false) ?_ (hr:=by go_simp;simp [H1.out]);refine tk (.bool false) ?_;refine ps ?_;refine ps ?_;refine ps ?_;refine tk (.bool false) ?_;go_upto_region 12 with fail;refine Zl ?_;refine tk (.slice ba n bc) ?_;refine cl (by have:=Fo.zG lb _ _ H.ex.2.2.blks (HV.below (Nat.le_refl _) H.ex.1.1).1;rw [HLB.out] at this;exact this) H ?_;clear H;intro w4 H;refine tk (.tuple #[.agg (u8s (Fo.jX (l.map (·.2)))).toArray,.int .i64 (Fo.jr (l.map (·.2)))]) ?_;refine tk (.agg (u8s (Fo.jX (l.map (·.2)))).toArray) ?_;refine tk (.int .i64 (Fo.jr (l.map (·.2)))) ?_;refine al Fo.Qx H ?_ (hns:=(Kz (J1 32)).ns);clear H;intro g5 w5 H;refine stO (Kz HTL.out) (Ob.len (Kz HTL.out) (Kz (J1 32))) H 3 ?_;clear H;intro w5 H;refine tk (.int .i64 (Fo.jr (l.map (·.2)))) ?_;go_upto_region 13 with fail;refine Zl ?_;refine tk (.int .i64 (Fo.jr (l.map (·.2)))) ?_;refine tk (.bool false) ?_ (hr:=by go_simp;simp [HCD.out]);go_upto_region 15 with fail;refine Zl ?_;refine ldO (Kz HTL.out) H 3 ?_;refine tk (.pointer (some ⟨g3,1,none⟩)) ?_;refine stP (Kz HTL.out) (Ob.len (Kz HTL.out) (Kz rfl)) (Ks HPS.out HTL.out).ns H 2 (ZX _ _) (ZX _ _) ?_;clear H;intro w5 H;go_upto_region 16 with fail;refine Zl ?_;refine ldO (Ks HPS.out HTL.out) H 2 ?_;refine stO (Ks HPS.out HTL.out) (Ob.len (Ks HPS.out HTL.out) chz_ob) H 1 ?_;clear H;intro w5 H;refine tk (Value.nilIface) ?_;go_wp2_with fail
    refine Y6 (Ks HPS.out HTL.out) H 1 rfl ⟨?_,H.ex.1.1⟩;rw [HC.out];refine⟨pv,?_,H.ex.2.1.mono HBW.out⟩;rw [HTO.out];rfl
  have H1:=Zh h1
  by_cases hn3:n=3
  · obtain⟨hc,hno⟩:=HF.over h1 (by rw [HN.out];exact hn3);have HC:=Zh hc;have HCD:Hid (Fo.jr (l.map (·.2))=11):=Zh (if_neg (by rw [hno];decide));have HTL:Hid ((Fo.jX (l.map (·.2))).length=32):=Zh (YE (HLB.out ▸ HR.st.ex.2.2.blks.wf));have HN2:Hid (¬n<3):=Zh (by omega);have H:=HR.st;clear HR hn3 h1 hc hno;go_upto_region 4 with fail;refine Zl ?_;refine tk (.int .i64 h) ?_;refine tk (.bool true) ?_ (hr:=by go_simp;simp [H1.out]);refine tk (.bool true) ?_;refine tk (.slice ba n bc) ?_;refine tk (.int .i64 n) ?_;refine tk (.bool false) ?_ (hr:=by go_simp;have:=HN2.out;omega);refine tk (.bool false) ?_;go_upto_region 12 with fail;refine Zl ?_;refine tk (.slice ba n bc) ?_;refine cl (by have:=Fo.zG lb _ _ H.ex.2.2.blks (HV.below (Nat.le_refl _) H.ex.1.1).1;rw [HLB.out] at this;exact this) H ?_;clear H;intro w4 H;refine tk (.tuple #[.agg (u8s (Fo.jX (l.map (·.2)))).toArray,.int .i64 (Fo.jr (l.map (·.2)))]) ?_;refine tk (.agg (u8s (Fo.jX (l.map (·.2)))).toArray) ?_;refine tk (.int .i64 (Fo.jr (l.map (·.2)))) ?_;refine al Fo.Qx H ?_ (hns:=(Kz (J1 32)).ns);clear H;intro g5 w5 H;refine stO (Kz HTL.out) (Ob.len (Kz HTL.out) (Kz (J1 32))) H 3 ?_;clear H;intro w5 H;refine tk (.int .i64 (Fo.jr (l.map (·.2)))) ?_;go_upto_region 13 with fail;refine Zl ?_;refine tk (.int .i64 (Fo.jr (l.map (·.2)))) ?_;refine tk (.bool true) ?_ (hr:=by go_simp;simp [HCD.out]);go_upto_region 14 with fail;refine Zl ?_;refine Jh (X7 _) rfl ?_;refine nm ?_;refine J0 rfl fun K hK=>?_;go_simp;refine (new_err 13 rfl _ _).mono ?_;rintro e w6 ⟨T6,d6,t6,s6,rfl,hc,hb⟩;replace H:=(H.call hb).chain hc;clear hc hb;refine hK _ _ (nm ?_);clear hK K;refine stO chz_ob (Ob.len chz_ob chz_ob) H 1 ?_;clear H;intro w6 H;refine tk (.iface T6 d6) ?_;go_wp2_with fail
    refine Y6 chz_ob H 1 rfl ⟨?_,H.ex.1.1.1⟩;rw [HC.out];exact⟨_,_,_,_,rfl,H.ex.2⟩
  have HN2:Hid (n<3):=Zh (by have:=HN3.out;omega);have H:=HR.st;have HRZ:=Zh HR;clear HR hn3 h1;go_upto_region 4 with fail;refine Zl ?_;refine tk (.int .i64 h) ?_;refine tk (.bool true) ?_ (hr:=by go_simp;simp [H1.out]);refine tk (.bool true) ?_;refine tk (.slice ba n bc) ?_;refine tk (.int .i64 n) ?_;refine tk (.bool true) ?_ (hr:=by go_simp;have:=HN2.out;omega);refine tk (.bool true) ?_;refine Zn ?_;cases hba:bAt X g h
  · have HBA:=Zh hba;go_upto_region 5 with fail;refine Zl ?_;refine tk (.pointer (some ⟨b,0,none⟩)) ?_;refine ldO (Jg g) H 0 ?_;refine tk (.int .i64 h) ?_;refine J0 rfl fun K hK=>?_;go_simp;refine (HB.out h _ HSM.out H.ex.1.1).mono ?_;rw [HBA.out];rintro e w4 ⟨⟨T4,d4,t4,s4,rfl,hc⟩,hb⟩;replace H:=(H.call hb).chain hc;clear hc hb;refine hK _ _ (nm ?_);clear hK K;refine tk (.tuple #[.agg (Bk.none.cells (.slice none 0 0)).toArray,.iface T4 d4]) ?_;refine tk (.agg (Bk.none.cells (.slice none 0 0)).toArray) ?_;refine tk (.iface T4 d4) ?_;refine al Fo.zero82b H ?_ (hns:=(Jv none_wf Jq).ns);clear H;intro g5 w5 H;refine stO (Jv none_wf Jq) (Ob.len (Jv none_wf Jq) (Jv none_wf Jq)) H 3 ?_;clear H;intro w5 H;refine tk (.iface T4 d4) ?_;go_upto_region 6 with fail;refine Zl ?_;refine tk (.iface T4 d4) ?_;refine tk (.bool true) ?_;go_upto_region 7 with fail;refine Zl ?_;refine Jh (X7 _) rfl ?_;refine nm ?_;refine tk (.iface T4 d4) ?_;refine stO chz_ob (Ob.len chz_ob chz_ob) H 1 ?_;clear H;intro w5 H;refine tk (.iface T4 d4) ?_;go_wp2_with fail
    refine Y6 chz_ob H 1 rfl ⟨?_,H.ex.1.1.1⟩;rw [HF.no H1.out (Jas HBA.out)];exact⟨_,_,_,_,rfl,H.ex.2⟩
  rename_i b0
  have HBA:=Zh hba;clear hba;go_upto_region 5 with fail;refine Zl ?_;refine tk (.pointer (some ⟨b,0,none⟩)) ?_;refine ldO (Jg g) H 0 ?_;refine tk (.int .i64 h) ?_;refine J0 rfl fun K hK=>?_;go_simp;refine (HB.out h _ HSM.out H.ex.1.1).mono ?_;rw [HBA.out];rintro e w4 ⟨⟨sv,rfl,hwf,hy,hfr⟩,hb⟩;have HWF:=Zh hwf;have HSV:=Zh (Bytes.sl hy);have HS:=HRZ.slice hb hy hfr;replace H:=HS.st;have HSZ:=Zh HS;clear hwf hy hfr hb HS;refine hK _ _ (nm ?_);clear hK K;refine tk (.tuple #[.agg (b0.cells sv).toArray,.nilIface]) ?_;refine tk (.agg (b0.cells sv).toArray) ?_;refine tk (.nilIface) ?_;refine al Fo.zero82b H ?_ (hns:=(Jv none_wf Jq).ns);clear H;intro g5 w5 H;refine stO (Jv HWF.out HSV.out) (Ob.len (Jv HWF.out HSV.out) (Jv none_wf Jq)) H 3 ?_;clear H;intro w5 H;refine tk (.nilIface) ?_;go_upto_region 6 with fail;refine Zl ?_;refine tk (.nilIface) ?_;refine tk (.bool false) ?_;refine Zn ?_
  by_cases hk3:b0.kind=3
  · have HK3:=Zh hk3;clear hk3;go_upto_region 8 with fail;refine Zl ?_;refine tk (.pointer (some ⟨g5,0,none⟩)) ?_;refine lc H 3 (0) ?_;refine tk (.bool true) ?_ (hr:=by go_simp;simp [HK3.out]);refine tk (.bool true) ?_;refine ps ?_;refine ps ?_;refine ps ?_;refine ps ?_;refine tk (.bool true) ?_;go_upto_region 9 with fail;refine Zl ?_;refine Jh (X7 _) rfl ?_;refine nm ?_;refine tk (.int .i64 h) ?_;refine J0 rfl fun K hK=>?_;go_simp;refine (Q5 h (by have:=HSM.out.1;omega) (by have:=HSM.out.2;omega) _ (HV.below (Nat.le_refl _) H.ex.1.1.1)).mono ?_;rintro e w6 ⟨sI,rfl,hsI,hb⟩;replace H:=H.call hb;clear hb;refine hK _ _ (nm ?_);clear hK K;refine tk (.string (⟨#[110,111,116,32,111,102,32,116,104,97,116,32,112,97,103,101,58,32,115,101,99,116,111,114,32]⟩++sI)) ?_ (hr:=by go_simp;omega);refine J0 rfl fun K hK=>?_;go_simp;refine (new_err 13 rfl _ _).mono ?_;rintro e w7 ⟨T7,d7,t7,s7,rfl,hc,hb⟩;replace H:=(H.call hb).chain hc;clear hc hb;refine hK _ _ (nm ?_);clear hK K;refine stO chz_ob (Ob.len chz_ob chz_ob) H 1 ?_;clear H;intro w7 H;refine tk (.iface T7 d7) ?_;go_wp2_with fail
    refine Y6 chz_ob H 1 rfl ⟨?_,H.ex.1.1.1.1⟩;rw [HF.no H1.out (xi HBA.out fun c=>c.1 HK3.out)];exact⟨_,_,_,_,rfl,H.ex.2⟩
  have HK3:=Zh hk3;clear hk3
  by_cases hid:b0.id=id
  · have HID:=Zh hid;clear hid;go_upto_region 8 with fail;refine Zl ?_;refine tk (.pointer (some ⟨g5,0,none⟩)) ?_;refine lc H 3 (0) ?_;refine tk (.bool false) ?_ (hr:=by go_simp;simp [HK3.out]);refine tk (.bool false) ?_;refine tk (.pointer (some ⟨g5,1,none⟩)) ?_;refine lc H 3 (1) ?_;refine tk (.int .i64 id) ?_;refine tk (.bool false) ?_ (hr:=by go_simp;simp [HID.out]);refine tk (.bool false) ?_;refine Zn ?_;have HSX:=HSZ.again H;clear HSZ H;have HLL:Hid (lb.length≤3):=Zh (by have:=congrArg List.length HLB.out;have:=HN.out;have:=HN2.out;simp at *;omega);have HL1:Hid ((l.map (·.1)).length≤100):=Zh (by simp only [List.length_map];have:=HN.out;have:=HN2.out;omega);have HL2:Hid (lb.length≤100):=Zh (by have:=HLL.out;omega);go_upto_region 10 with fail
    go_cut [11] from 50 to 59 (fun s11 wx=>∃qa qn qc bv2,s11=bv2∧FolR w B (.slice qa qn qc) bv2 (l.map (·.1)++[h]) (lb++[(b0,sv)]) [(g1,[.int .i64 g.p,.int .i64 g.s,.int .i64 g.l,.int .i64 g.f]),(g2,chZ),(g3,chC (.slice qa qn qc) (zeros 32)),(g5,b0.cells sv)] wx)
    case first =>
     refine J9 (fun wq=>Blk wq g5 (b0.cells sv)) (by kernel_rfl) ?_;have HX:=HSX.again HSX.st.drew;clear HSX;refine th 0 50 (.pointer (some ⟨g3,0,none⟩)) (HX.st.blk 3 _ _ rfl) ?_;refine th 2 52 (.int .i64 h) (HX.st.blk 3 _ _ rfl) ?_;refine th 5 55 (.slice ba n bc) (HX.st.blk 3 _ _ rfl) ?_;refine th 6 56 (.agg (b0.cells sv).toArray) (HX.st.blk 3 _ _ rfl) ?_ (hy:=fun u hS=>Kf (Jv HWF.out HSV.out) hS _ _ _ rfl rfl);refine wpAnyH_all (rs:=[1,3,7]) (by kernel_rfl) (by simp) fun m hm=>?_;rcases (show m=1∨m=3∨m=7 by simpa using hm) with rfl|rfl|rfl
     · refine wpOp_step rfl fun K hK1=>YY rfl ?_;have hK:=fun a w hS hA=>hK1 a w ⟨hS,hA⟩;clear hK1 hm;refine Jb (some 51) rfl pv _ (by have hq:=(HX.st.blk 2 _ _ rfl).cell (i:=0) (v:=pv) rfl;go_simp) (hK _ _ (HX.st.blk 3 _ _ rfl) ?_);clear hK K;refine nm ?_;refine wpAnyH_all (rs:=[3,7]) (by kernel_rfl) (by simp) fun m hm=>?_;rcases (show m=3∨m=7 by simpa using hm) with rfl|rfl
       · refine wpOp_step rfl fun K hK1=>YY rfl ?_;have hK:=fun a w hS hA=>hK1 a w ⟨hS,hA⟩;clear hK1 hm;refine J2d _ h 53 rfl rfl rfl fun gl w6 hg hA hb hl=>?_;replace HX:=HX.new (fun v hv t e=>by subst e;simp at hv) hg hA hb;clear hg hA hb hl;refine hK _ _ (HX.st.blk 3 _ _ rfl) (nm ?_);clear hK K;refine wpAnyH_all (rs:=[4,7]) (by kernel_rfl) (by simp) fun m hm=>?_;rcases (show m=4∨m=7 by simpa using hm) with rfl|rfl
         · refine wpOp_step rfl fun K hK1=>YY rfl ?_;have hK:=fun a w hS hA=>hK1 a w ⟨hS,hA⟩;clear hK1 hm;refine HX.app1 4 rfl HL1.out _ _ 54 rfl rfl rfl rfl fun pv2 w7 HY=>?_;replace HX:=HY;clear HY;refine hK _ _ (HX.st.blk 3 _ _ rfl) (nm ?_);clear hK K;refine th 9 59 (.pointer (some ⟨g3,0,none⟩)) (HX.st.blk 3 _ _ rfl) ?_;refine Zo 7 fun K hK=>?_;refine J2e HWF.out _ 57 rfl rfl rfl fun gb w8 hg hA hb hl=>?_;replace HX:=HX.new (Jv HWF.out HSV.out).ns hg hA hb;clear hg hA hb hl;refine hK _ _ (HX.st.blk 3 _ _ rfl) (nm ?_);clear hK K;refine Zo 8 fun K hK=>?_;refine HX.app2 HWF.out HSV.out 5 rfl HL2.out _ _ 58 rfl rfl rfl rfl fun bv2 w9 HY=>?_;replace HX:=HY;clear HY;refine hK _ _ (HX.st.blk 3 _ _ rfl) (nm ?_);clear hK K;refine Zo 10 fun K hK=>?_;obtain⟨qa,qn,qc,rfl⟩:=HX.st.ex.2.1.sl;refine YD HX.st 2 rfl HX.st.ex.2.1.sl rfl fun w10 HY=>?_;replace HX:=HX.again HY;clear HY;refine hK _ _ (HX.st.blk 3 _ _ rfl) (nm ?_);clear hK K;refine th 11 11 (bv2) (HX.st.blk 3 _ _ rfl) ?_;refine Zd ?_
           go_wp2_with fail
           go_meet
           exact⟨qa,qn,qc,bv2,rfl,HX.again (HX.st.cut 4)⟩
         · refine wpOp_step rfl fun K hK1=>YY rfl ?_;have hK:=fun a w hS hA=>hK1 a w ⟨hS,hA⟩;clear hK1 hm;refine J2e HWF.out _ 57 rfl rfl rfl fun gb w7 hg hA hb hl=>?_;replace HX:=HX.new (Jv HWF.out HSV.out).ns hg hA hb;clear hg hA hb hl;refine hK _ _ (HX.st.blk 3 _ _ rfl) (nm ?_);clear hK K;refine Zo 4 fun K hK=>?_;refine HX.app1 4 rfl HL1.out _ _ 54 rfl rfl rfl rfl fun pv2 w8 HY=>?_;replace HX:=HY;clear HY;refine hK _ _ (HX.st.blk 3 _ _ rfl) (nm ?_);clear hK K;refine th 9 59 (.pointer (some ⟨g3,0,none⟩)) (HX.st.blk 3 _ _ rfl) ?_;refine Zo 8 fun K hK=>?_;refine HX.app2 HWF.out HSV.out 5 rfl HL2.out _ _ 58 rfl rfl rfl rfl fun bv2 w9 HY=>?_;replace HX:=HY;clear HY;refine hK _ _ (HX.st.blk 3 _ _ rfl) (nm ?_);clear hK K;refine Zo 10 fun K hK=>?_;obtain⟨qa,qn,qc,rfl⟩:=HX.st.ex.2.1.sl;refine YD HX.st 2 rfl HX.st.ex.2.1.sl rfl fun w10 HY=>?_;replace HX:=HX.again HY;clear HY;refine hK _ _ (HX.st.blk 3 _ _ rfl) (nm ?_);clear hK K;refine th 11 11 (bv2) (HX.st.blk 3 _ _ rfl) ?_;refine Zd ?_
           go_wp2_with fail
           go_meet
           exact⟨qa,qn,qc,bv2,rfl,HX.again (HX.st.cut 4)⟩
       · refine wpOp_step rfl fun K hK1=>YY rfl ?_;have hK:=fun a w hS hA=>hK1 a w ⟨hS,hA⟩;clear hK1 hm;refine J2e HWF.out _ 57 rfl rfl rfl fun gb w6 hg hA hb hl=>?_;replace HX:=HX.new (Jv HWF.out HSV.out).ns hg hA hb;clear hg hA hb hl;refine hK _ _ (HX.st.blk 3 _ _ rfl) (nm ?_);clear hK K;refine Zo 3 fun K hK=>?_;refine J2d _ h 53 rfl rfl rfl fun gl w7 hg hA hb hl=>?_;replace HX:=HX.new (fun v hv t e=>by subst e;simp at hv) hg hA hb;clear hg hA hb hl;refine hK _ _ (HX.st.blk 3 _ _ rfl) (nm ?_);clear hK K;refine Zo 4 fun K hK=>?_;refine HX.app1 5 rfl HL1.out _ _ 54 rfl rfl rfl rfl fun pv2 w8 HY=>?_;replace HX:=HY;clear HY;refine hK _ _ (HX.st.blk 3 _ _ rfl) (nm ?_);clear hK K;refine th 9 59 (.pointer (some ⟨g3,0,none⟩)) (HX.st.blk 3 _ _ rfl) ?_;refine Zo 8 fun K hK=>?_;refine HX.app2 HWF.out HSV.out 4 rfl HL2.out _ _ 58 rfl rfl rfl rfl fun bv2 w9 HY=>?_;replace HX:=HY;clear HY;refine hK _ _ (HX.st.blk 3 _ _ rfl) (nm ?_);clear hK K;refine Zo 10 fun K hK=>?_;obtain⟨qa,qn,qc,rfl⟩:=HX.st.ex.2.1.sl;refine YD HX.st 2 rfl HX.st.ex.2.1.sl rfl fun w10 HY=>?_;replace HX:=HX.again HY;clear HY;refine hK _ _ (HX.st.blk 3 _ _ rfl) (nm ?_);clear hK K;refine th 11 11 (bv2) (HX.st.blk 3 _ _ rfl) ?_;refine Zd ?_
         go_wp2_with fail
         go_meet
         exact⟨qa,qn,qc,bv2,rfl,HX.again (HX.st.cut 4)⟩
     · refine wpOp_step rfl fun K hK1=>YY rfl ?_;have hK:=fun a w hS hA=>hK1 a w ⟨hS,hA⟩;clear hK1 hm;refine J2d _ h 53 rfl rfl rfl fun gl w6 hg hA hb hl=>?_;replace HX:=HX.new (fun v hv t e=>by subst e;simp at hv) hg hA hb;clear hg hA hb hl;refine hK _ _ (HX.st.blk 3 _ _ rfl) (nm ?_);clear hK K;refine wpAnyH_all (rs:=[1,7]) (by kernel_rfl) (by simp) fun m hm=>?_;rcases (show m=1∨m=7 by simpa using hm) with rfl|rfl
       · refine wpOp_step rfl fun K hK1=>YY rfl ?_;have hK:=fun a w hS hA=>hK1 a w ⟨hS,hA⟩;clear hK1 hm;refine Jb (some 51) rfl pv _ (by have hq:=(HX.st.blk 2 _ _ rfl).cell (i:=0) (v:=pv) rfl;go_simp) (hK _ _ (HX.st.blk 3 _ _ rfl) ?_);clear hK K;refine nm ?_;refine wpAnyH_all (rs:=[4,7]) (by kernel_rfl) (by simp) fun m hm=>?_;rcases (show m=4∨m=7 by simpa using hm) with rfl|rfl
         · refine wpOp_step rfl fun K hK1=>YY rfl ?_;have hK:=fun a w hS hA=>hK1 a w ⟨hS,hA⟩;clear hK1 hm;refine HX.app1 4 rfl HL1.out _ _ 54 rfl rfl rfl rfl fun pv2 w7 HY=>?_;replace HX:=HY;clear HY;refine hK _ _ (HX.st.blk 3 _ _ rfl) (nm ?_);clear hK K;refine th 9 59 (.pointer (some ⟨g3,0,none⟩)) (HX.st.blk 3 _ _ rfl) ?_;refine Zo 7 fun K hK=>?_;refine J2e HWF.out _ 57 rfl rfl rfl fun gb w8 hg hA hb hl=>?_;replace HX:=HX.new (Jv HWF.out HSV.out).ns hg hA hb;clear hg hA hb hl;refine hK _ _ (HX.st.blk 3 _ _ rfl) (nm ?_);clear hK K;refine Zo 8 fun K hK=>?_;refine HX.app2 HWF.out HSV.out 5 rfl HL2.out _ _ 58 rfl rfl rfl rfl fun bv2 w9 HY=>?_;replace HX:=HY;clear HY;refine hK _ _ (HX.st.blk 3 _ _ rfl) (nm ?_);clear hK K;refine Zo 10 fun K hK=>?_;obtain⟨qa,qn,qc,rfl⟩:=HX.st.ex.2.1.sl;refine YD HX.st 2 rfl HX.st.ex.2.1.sl rfl fun w10 HY=>?_;replace HX:=HX.again HY;clear HY;refine hK _ _ (HX.st.blk 3 _ _ rfl) (nm ?_);clear hK K;refine th 11 11 (bv2) (HX.st.blk 3 _ _ rfl) ?_;refine Zd ?_
           go_wp2_with fail
           go_meet
           exact⟨qa,qn,qc,bv2,rfl,HX.again (HX.st.cut 4)⟩
         · refine wpOp_step rfl fun K hK1=>YY rfl ?_;have hK:=fun a w hS hA=>hK1 a w ⟨hS,hA⟩;clear hK1 hm;refine J2e HWF.out _ 57 rfl rfl rfl fun gb w7 hg hA hb hl=>?_;replace HX:=HX.new (Jv HWF.out HSV.out).ns hg hA hb;clear hg hA hb hl;refine hK _ _ (HX.st.blk 3 _ _ rfl) (nm ?_);clear hK K;refine Zo 4 fun K hK=>?_;refine HX.app1 4 rfl HL1.out _ _ 54 rfl rfl rfl rfl fun pv2 w8 HY=>?_;replace HX:=HY;clear HY;refine hK _ _ (HX.st.blk 3 _ _ rfl) (nm ?_);clear hK K;refine th 9 59 (.pointer (some ⟨g3,0,none⟩)) (HX.st.blk 3 _ _ rfl) ?_;refine Zo 8 fun K hK=>?_;refine HX.app2 HWF.out HSV.out 5 rfl HL2.out _ _ 58 rfl rfl rfl rfl fun bv2 w9 HY=>?_;replace HX:=HY;clear HY;refine hK _ _ (HX.st.blk 3 _ _ rfl) (nm ?_);clear hK K;refine Zo 10 fun K hK=>?_;obtain⟨qa,qn,qc,rfl⟩:=HX.st.ex.2.1.sl;refine YD HX.st 2 rfl HX.st.ex.2.1.sl rfl fun w10 HY=>?_;replace HX:=HX.again HY;clear HY;refine hK _ _ (HX.st.blk 3 _ _ rfl) (nm ?_);clear hK K;refine th 11 11 (bv2) (HX.st.blk 3 _ _ rfl) ?_;refine Zd ?_
           go_wp2_with fail
           go_meet
           exact⟨qa,qn,qc,bv2,rfl,HX.again (HX.st.cut 4)⟩
       · refine wpOp_step rfl fun K hK1=>YY rfl ?_;have hK:=fun a w hS hA=>hK1 a w ⟨hS,hA⟩;clear hK1 hm;refine J2e HWF.out _ 57 rfl rfl rfl fun gb w7 hg hA hb hl=>?_;replace HX:=HX.new (Jv HWF.out HSV.out).ns hg hA hb;clear hg hA hb hl;refine hK _ _ (HX.st.blk 3 _ _ rfl) (nm ?_);clear hK K;refine Zo 1 fun K hK=>?_;refine Jb (some 51) rfl pv _ (by have hq:=(HX.st.blk 2 _ _ rfl).cell (i:=0) (v:=pv) rfl;go_simp) (hK _ _ (HX.st.blk 3 _ _ rfl) ?_);clear hK K;refine nm ?_;refine Zo 4 fun K hK=>?_;refine HX.app1 4 rfl HL1.out _ _ 54 rfl rfl rfl rfl fun pv2 w8 HY=>?_;replace HX:=HY;clear HY;refine hK _ _ (HX.st.blk 3 _ _ rfl) (nm ?_);clear hK K;refine th 9 59 (.pointer (some ⟨g3,0,none⟩)) (HX.st.blk 3 _ _ rfl) ?_;refine Zo 8 fun K hK=>?_;refine HX.app2 HWF.out HSV.out 5 rfl HL2.out _ _ 58 rfl rfl rfl rfl fun bv2 w9 HY=>?_;replace HX:=HY;clear HY;refine hK _ _ (HX.st.blk 3 _ _ rfl) (nm ?_);clear hK K;refine Zo 10 fun K hK=>?_;obtain⟨qa,qn,qc,rfl⟩:=HX.st.ex.2.1.sl;refine YD HX.st 2 rfl HX.st.ex.2.1.sl rfl fun w10 HY=>?_;replace HX:=HX.again HY;clear HY;refine hK _ _ (HX.st.blk 3 _ _ rfl) (nm ?_);clear hK K;refine th 11 11 (bv2) (HX.st.blk 3 _ _ rfl) ?_;refine Zd ?_
         go_wp2_with fail
         go_meet
         exact⟨qa,qn,qc,bv2,rfl,HX.again (HX.st.cut 4)⟩
     · refine wpOp_step rfl fun K hK1=>YY rfl ?_;have hK:=fun a w hS hA=>hK1 a w ⟨hS,hA⟩;clear hK1 hm;refine J2e HWF.out _ 57 rfl rfl rfl fun gb w6 hg hA hb hl=>?_;replace HX:=HX.new (Jv HWF.out HSV.out).ns hg hA hb;clear hg hA hb hl;refine hK _ _ (HX.st.blk 3 _ _ rfl) (nm ?_);clear hK K;refine wpAnyH_all (rs:=[1,3]) (by kernel_rfl) (by simp) fun m hm=>?_;rcases (show m=1∨m=3 by simpa using hm) with rfl|rfl
       · refine wpOp_step rfl fun K hK1=>YY rfl ?_;have hK:=fun a w hS hA=>hK1 a w ⟨hS,hA⟩;clear hK1 hm;refine Jb (some 51) rfl pv _ (by have hq:=(HX.st.blk 2 _ _ rfl).cell (i:=0) (v:=pv) rfl;go_simp) (hK _ _ (HX.st.blk 3 _ _ rfl) ?_);clear hK K;refine nm ?_;refine Zo 3 fun K hK=>?_;refine J2d _ h 53 rfl rfl rfl fun gl w7 hg hA hb hl=>?_;replace HX:=HX.new (fun v hv t e=>by subst e;simp at hv) hg hA hb;clear hg hA hb hl;refine hK _ _ (HX.st.blk 3 _ _ rfl) (nm ?_);clear hK K;refine Zo 4 fun K hK=>?_;refine HX.app1 5 rfl HL1.out _ _ 54 rfl rfl rfl rfl fun pv2 w8 HY=>?_;replace HX:=HY;clear HY;refine hK _ _ (HX.st.blk 3 _ _ rfl) (nm ?_);clear hK K;refine th 9 59 (.pointer (some ⟨g3,0,none⟩)) (HX.st.blk 3 _ _ rfl) ?_;refine Zo 8 fun K hK=>?_;refine HX.app2 HWF.out HSV.out 4 rfl HL2.out _ _ 58 rfl rfl rfl rfl fun bv2 w9 HY=>?_;replace HX:=HY;clear HY;refine hK _ _ (HX.st.blk 3 _ _ rfl) (nm ?_);clear hK K;refine Zo 10 fun K hK=>?_;obtain⟨qa,qn,qc,rfl⟩:=HX.st.ex.2.1.sl;refine YD HX.st 2 rfl HX.st.ex.2.1.sl rfl fun w10 HY=>?_;replace HX:=HX.again HY;clear HY;refine hK _ _ (HX.st.blk 3 _ _ rfl) (nm ?_);clear hK K;refine th 11 11 (bv2) (HX.st.blk 3 _ _ rfl) ?_;refine Zd ?_
         go_wp2_with fail
         go_meet
         exact⟨qa,qn,qc,bv2,rfl,HX.again (HX.st.cut 4)⟩
       · refine wpOp_step rfl fun K hK1=>YY rfl ?_;have hK:=fun a w hS hA=>hK1 a w ⟨hS,hA⟩;clear hK1 hm;refine J2d _ h 53 rfl rfl rfl fun gl w7 hg hA hb hl=>?_;replace HX:=HX.new (fun v hv t e=>by subst e;simp at hv) hg hA hb;clear hg hA hb hl;refine hK _ _ (HX.st.blk 3 _ _ rfl) (nm ?_);clear hK K;refine Zo 1 fun K hK=>?_;refine Jb (some 51) rfl pv _ (by have hq:=(HX.st.blk 2 _ _ rfl).cell (i:=0) (v:=pv) rfl;go_simp) (hK _ _ (HX.st.blk 3 _ _ rfl) ?_);clear hK K;refine nm ?_;refine Zo 4 fun K hK=>?_;refine HX.app1 5 rfl HL1.out _ _ 54 rfl rfl rfl rfl fun pv2 w8 HY=>?_;replace HX:=HY;clear HY;refine hK _ _ (HX.st.blk 3 _ _ rfl) (nm ?_);clear hK K;refine th 9 59 (.pointer (some ⟨g3,0,none⟩)) (HX.st.blk 3 _ _ rfl) ?_;refine Zo 8 fun K hK=>?_;refine HX.app2 HWF.out HSV.out 4 rfl HL2.out _ _ 58 rfl rfl rfl rfl fun bv2 w9 HY=>?_;replace HX:=HY;clear HY;refine hK _ _ (HX.st.blk 3 _ _ rfl) (nm ?_);clear hK K;refine Zo 10 fun K hK=>?_;obtain⟨qa,qn,qc,rfl⟩:=HX.st.ex.2.1.sl;refine YD HX.st 2 rfl HX.st.ex.2.1.sl rfl fun w10 HY=>?_;replace HX:=HX.again HY;clear HY;refine hK _ _ (HX.st.blk 3 _ _ rfl) (nm ?_);clear hK K;refine th 11 11 (bv2) (HX.st.blk 3 _ _ rfl) ?_;refine Zd ?_
         go_wp2_with fail
         go_meet
         exact⟨qa,qn,qc,bv2,rfl,HX.again (HX.st.cut 4)⟩
    case rest =>
     obtain⟨qa,qn,qc,bv2,rfl,HZ⟩:=hcut;have H:=HZ.st;have HQS:Hid (IsSl (.slice qa qn qc)):=Zh ⟨_,_,_,rfl⟩;go_upto_region 11 with fail;refine Zl ?_;refine ldO (Jv HWF.out HSV.out) H 3 ?_;refine cl (J2c HWF.out HSV.out _) H ?_;clear H;intro w6 H;refine tk (.int .i64 (qg b0)) ?_;go_wp2_with fail
     go_roundg (3-(l.length+1))
     case measure=>have:=HN.out;have:=HN2.out;have:=HQ.out;omega
     case rel =>
      refine⟨l++[(h,b0)],lb++[(b0,sv)],qg b0,Value.slice qa qn qc,_,by simp,HF.next H1.out (by rw [HN.out];exact HN2.out) (Jat HBA.out HK3.out HID.out),Fol.small (X:=X) (g:=g) (id:=id) (head:=head) (h:=h) (l:=l) HWF.out,rfl,rfl,by simp [HLB.out],?_⟩;rw [List.map_append];exact HZ.again (H.cut 3)
  · have HID:=Zh hid;clear hid;go_upto_region 8 with fail;refine Zl ?_;refine tk (.pointer (some ⟨g5,0,none⟩)) ?_;refine lc H 3 (0) ?_;refine tk (.bool false) ?_ (hr:=by go_simp;simp [HK3.out]);refine tk (.bool false) ?_;refine tk (.pointer (some ⟨g5,1,none⟩)) ?_;refine lc H 3 (1) ?_;refine tk (.int .i64 id) ?_;refine tk (.bool true) ?_ (hr:=by go_simp;simp [HID.out]);refine tk (.bool true) ?_;go_upto_region 9 with fail;refine Zl ?_;refine Jh (X7 _) rfl ?_;refine nm ?_;refine tk (.int .i64 h) ?_;refine J0 rfl fun K hK=>?_;go_simp;refine (Q5 h (by have:=HSM.out.1;omega) (by have:=HSM.out.2;omega) _ (HV.below (Nat.le_refl _) H.ex.1.1.1)).mono ?_;rintro e w6 ⟨sI,rfl,hsI,hb⟩;replace H:=H.call hb;clear hb;refine hK _ _ (nm ?_);clear hK K;refine tk (.string (⟨#[110,111,116,32,111,102,32,116,104,97,116,32,112,97,103,101,58,32,115,101,99,116,111,114,32]⟩++sI)) ?_ (hr:=by go_simp;omega);refine J0 rfl fun K hK=>?_;go_simp;refine (new_err 13 rfl _ _).mono ?_;rintro e w7 ⟨T7,d7,t7,s7,rfl,hc,hb⟩;replace H:=(H.call hb).chain hc;clear hc hb;refine hK _ _ (nm ?_);clear hK K;refine stO chz_ob (Ob.len chz_ob chz_ob) H 1 ?_;clear H;intro w7 H;refine tk (.iface T7 d7) ?_;go_wp2_with fail
    refine Y6 chz_ob H 1 rfl ⟨?_,H.ex.1.1.1.1⟩;rw [HF.no H1.out (xi HBA.out fun c=>HID.out c.2)];exact⟨_,_,_,_,rfl,H.ex.2⟩
end Go.Proofs.YtdbfmikeaoaebaaGreatDoor
