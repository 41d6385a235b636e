/- Steps. -/
import Derived.Test.YtdbfmikeaoaebaaGreatDoorLaj
import Derived.Deep.AppendLies
import Derived.Deep.Cut
import Derived.Deep.CutRange
import Derived.Deep.DeepFit
import Derived.Deep.DeepMust
import Derived.Deep.LoopGhost
import Derived.Deep.Upon
import Derived.Great.BuildSlice
import Derived.Great.FillDense
import Derived.Laws.CopyRow
import Derived.Laws.Rows
import Derived.Laws.StructEq
import Derived.Lib.AppendZeros
import Derived.Lib.EndianBits
import Derived.Lib.Hide
import Derived.LoopIn
import Derived.LoopNIn
import Derived.OrdersHeld
import Derived.OwnWalkIn
import Derived.RangeFuncLeaves
import Derived.RangeFuncNested
import Derived.Shelf.Abstract
import Derived.TacticsInMore
import Derived.WalkKit
import Derived.WalkLawsBesides
import Derived.WalkSpells
set_option linter.unusedSimpArgs false
set_option linter.unusedVariables false
set_option maxRecDepth 100000
set_option maxHeartbeats 4000000
namespace Go.Proofs.YtdbfmikeaoaebaaGreatDoor
open Go.RowKit
variable {B b g k m n:Nat} {K:Act→World→Prop} {P:Program} {Q:Exit→Act→World→Prop} {T t:TypeId} {W w w':World} {a:Act} {cs:Array Value} {l:List Int} {o:Oper} {ops:Array Oper} {rest:List Oper} {sv v:Value} {y:Operand}
namespace Fo
open Pl
structure Pg (x:List Int):Prop where
 length:x.length=32
 bytes:∀y∈x,Ks y
theorem Pg.zeros:Pg (zeros 32):=⟨J1 32,K8 32⟩
def Fits(off:Int)(l:List Int):Prop:=0≤off∧0<l.length∧off+l.length≤32
instance (off:Int) (l:List Int):Decidable (Fits off l):=by unfold Fits;infer_instance
theorem QB:(Tryz.prog.info? 43).bind (·.zero)=some (.agg (u8s (zeros 32)).toArray):=by kernel_rfl
def _root_.Go.Proofs.YtdbfmikeaoaebaaGreatDoor.Bk.ends(b:Bk):Bool:=decide (b.kind=1)||decide (b.prev=1)
def okAt(id:Int)(last:Bool)(b:Bk):Bool:=b.good&&!decide (b.kind=3)&&decide (b.id=id)&&(b.ends == last)
def K3(id:Int):List Bk→Bool
 | []=>true
 | b::r=>okAt id r.isEmpty b&&K3 id r
def JF:List Bk→Bool
 | []=>true
 | b::r=>decide ((b::r).length≤3)&&K3 b.id (b::r)
def _root_.Go.Proofs.YtdbfmikeaoaebaaGreatDoor.Bk.over(b:Bk)(p:List Int):List Int:=if b.kind=1 then b.page else JD p b.off.toNat b.bytes
def Q5(l:List Bk):List Int:=l.foldr Bk.over (zeros 32)
theorem Z4(id:Int):∀l:List Bk,K3 id l=true↔∀i b,l[i]? = some b→okAt id (decide (i+1=l.length)) b=true
 | []=>by simp [K3]
 | b::r=>by
  rw [K3,Bool.and_eq_true,Z4 id r];constructor
  · rintro ⟨h1,h2⟩ i c hc;cases i with
    | zero =>
     simp only [List.getElem?_cons_zero,Option.some.injEq] at hc;subst hc;rw [←h1];congr 1;cases r <;> simp
    | succ i =>
     simp only [List.getElem?_cons_succ] at hc;have:=h2 i c hc
     rwa [show decide (i+1+1=(b::r).length)=decide (i+1=r.length) by simp]
  · intro h;refine⟨?_,fun i c hc=>?_⟩
    · have:=h 0 b rfl;rw [←this];congr 1;cases r <;> simp
    · have:=h (i+1) c (by simpa using hc)
      rwa [show decide (i+1+1=(b::r).length)=decide (i+1=r.length) by simp] at this
theorem QW(l:List Bk):JF l=true↔l.length≤3∧∀h,l[0]? = some h→∀i b,l[i]? = some b→okAt h.id (decide (i+1=l.length)) b=true:=by
 cases l with
 | nil=>simp [JF]
 | cons b r =>
  rw [JF,Bool.and_eq_true,Z4];simp only [decide_eq_true_eq,List.getElem?_cons_zero,Option.some.injEq];constructor
  · rintro ⟨h1,h2⟩;exact⟨h1,fun h e=>by subst e;exact h2⟩
  · rintro ⟨h1,h2⟩;exact⟨h1,h2 b rfl⟩
theorem Jba{id:Int}{last:Bool}{b:Bk}:okAt id last b=true↔b.good=true∧b.kind≠3∧b.id=id∧b.ends=last:=by
 simp [okAt,and_assoc]
theorem xC{id:Int}{last:Bool}{b:Bk}(h:okAt id last b=true)(k:b.kind≠1):Fits b.off b.bytes:=by
 obtain⟨h1,h2,-,-⟩:=Jba.1 h;have hk:=(QF h1).1;obtain⟨h3,h4,-⟩:=qZ h1 (by omega);exact⟨h4.1,by omega,by omega⟩
theorem jD{id:Int}{last:Bool}{b:Bk}(h:okAt id last b=true)(w:b.Wf){p:List Int}(hp:Pg p):Pg (b.over p):=by
 unfold Bk.over;split
 · exact⟨w.page,w.pages⟩
 · rename_i k
   have hf:=xC h k;obtain⟨f1,f2,f3⟩:=hf;have hl:=hp.length;refine⟨by rw [Yp (by omega),hl],fun y hy=>?_⟩;unfold JD at hy;rcases List.mem_append.1 hy with hy|hy
   · rcases List.mem_append.1 hy with hy|hy
     · exact hp.bytes y (List.mem_of_mem_take hy)
     · exact w.bytess y hy
   · exact hp.bytes y (List.mem_of_mem_drop hy)
theorem YG{id:Int}:∀{l:List Bk},K3 id l=true→(∀b∈l,b.Wf)→Pg (Q5 l)
 | [],_,_=>Pg.zeros
 | b::r,h,w=>by
  rw [K3,Bool.and_eq_true] at h;exact jD h.1 (w b (by simp)) (YG h.2 fun c hc=>w c (List.mem_cons_of_mem _ hc))
theorem yx{l:List Bk}(h:JF l=true):∃id,K3 id l=true:=by
 cases l with
 | nil=>exact⟨0,rfl⟩
 | cons b r =>
  rw [JF,Bool.and_eq_true] at h;exact⟨b.id,h.2⟩
theorem ja{l:List Bk}(h:JF l=true)(w:∀b∈l,b.Wf):Pg (Q5 l):=by
 obtain⟨id,h⟩:=yx h;exact YG h w
def BlksAt(w:World)(sv:Value)(l:List (Bk×Value)):Prop:=∃a cap,sv=.slice a l.length cap∧∀i x,l[i]? = some x→x.1.Wf∧BytesAt w x.2 x.1.bytes∧∃g o,a=some ⟨g,o,none⟩∧At w g (o+i*45) (x.1.arr x.2)
theorem BlksAt.below{l:List (Bk×Value)}(h:BlksAt w sv l)(hb:Below w.heap.size w w'):BlksAt w' sv l:=by
 obtain⟨a,cap,e,hc⟩:=h;refine⟨a,cap,e,fun i x hx=>?_⟩;obtain⟨h1,h2,g,o,h3,h4⟩:=hc i x hx;exact⟨h1,h2.below hb,g,o,h3,h4.below hb (h4.lt (by rw [Bk.arr_size h1];decide))⟩
theorem BlksAt.nil(w:World)(a:Option Addr)(cap:Nat):BlksAt w (.slice a 0 cap) []:=⟨a,cap,rfl,fun i x h=>by simp at h⟩
theorem BlksAt.wf{l:List (Bk×Value)}(h:BlksAt w sv l):∀b∈l.map (·.1),b.Wf:=fun b hb=>by
 obtain⟨a,cap,e,hc⟩:=h;obtain⟨x,hx,rfl⟩:=List.mem_map.1 hb;obtain⟨i,hi⟩:=List.getElem?_of_mem hx;exact (hc i x hi).1
theorem BlksAt.has{l:List (Bk×Value)}(h:BlksAt w sv l)(hl:0<l.length):∃g o cap,sv=.slice (some ⟨g,o,none⟩) l.length cap∧g<w.heap.size∧∀i x,l[i]? = some x→x.1.Wf∧BytesAt w x.2 x.1.bytes∧At w g (o+i*45) (x.1.arr x.2):=by
 obtain⟨a,cap,e,hc⟩:=h;obtain⟨h1,-,g,o,h3,h4⟩:=hc 0 l[0] (by simp [hl]);refine⟨g,o,cap,by rw [e,h3],h4.lt (by rw [Bk.arr_size h1];decide),fun i x hx=>?_⟩;obtain⟨k1,k2,g',o',k3,k4⟩:=hc i x hx;rw [h3] at k3;cases k3;exact⟨k1,k2,k4⟩
theorem _root_.Go.Proofs.YtdbfmikeaoaebaaGreatDoor.Bk.none_wf:Bk.none.Wf:=⟨K7,K7,K7,K7,J1 32,K8 32,Nat.zero_le _,(fun x hx=>by cases hx),J1 8,Yw 8⟩
theorem zero82b:(Tryz.prog.info? 82).bind (·.zero)=some (.agg (Bk.none.arr (.slice none 0 0))):=by kernel_rfl
theorem J6u{l:Nat}{row:String}{args:Array Value}{R:Value→World→Prop}(h:Rows P row args w R):RowsIn (Fence.wide.inRound l) m P row args w R:=fun c cs _=>by
 obtain⟨v,w',r,s⟩:=h c cs;exact⟨v,w',r,stepsIn_wide.2 s⟩
theorem J6v{l:Nat}{next next':Act→World→Prop}(hn:∀a w,next a w→next' a w):∀{r:Result Next},o.upon P a next Q r→o.uponIn (Fence.wide.inRound l) m P a next' Q r
 | .ok (.value v) w',h=>hn _ _ h
 | .ok .skip w',h=>hn _ _ h
 | .ok (.defer d) w',h=>hn _ _ h
 | .ok (.enter f args) w',h=>⟨(fun h0=>by cases h0),CallsIn.inRound l (callsIn_wide.2 (Calls.mono h fun e w'' he=>by cases e <;> first|exact hn _ _ he|exact he))⟩
 | .ok (.row row args) w',h=>⟨(fun h0=>by cases h0),J6u (h.mono fun v w'' he=>hn _ _ he)⟩
 | .halt (.panic v) w',h=>h
theorem xD{l m:Nat}{P:Program}{ops:Array Oper}{Q:Exit→Act→World→Prop}(hno:¬LetsOut Q):∀{rest:List Oper} {a:Act} {w:World},(∀o∈rest,∀c,o.op≠.defer c)→wpList P ops Q rest a w→wpListIn (Fence.wide.inRound l) m P ops Q rest a w
 | [],_,_,_,h=>h
 | o::rest,a,w,hd,h=>by
  have ih:=fun {a:Act} {w:World}=>xD (l:=l) (m:=m) (P:=P) (ops:=ops) hno (rest:=rest) (a:=a) (w:=w) fun x hx=>hd x (List.mem_cons_of_mem _ hx);unfold wpList at h;unfold wpListIn;split
  · rename_i hw
    rw [if_pos hw] at h;have h':o.wp P a w (wpList P ops Q rest) Q:=h.resolve_right fun hh=>hno hh.2;refine⟨fun _ _=>trivial,?_⟩;rw [show (Fence.wide.inRound l).round=some l from rfl,Oper.semAt_some l _ _ (hd o (by simp))];exact J6v (fun a w=>ih) h'
  · rename_i hw
    rw [if_neg hw] at h;exact⟨fun _ _=>trivial,ih h⟩
theorem YH{l id:Nat}{ops:List Oper}(hno:¬LetsOut Q)(hd:∀o∈ops,∀c,o.op≠.defer c)(h:wpList P ops.toArray Q ops a w):(Code.region id ops.toArray false).wpIn (Fence.wide.inRound l) m P Q a w :=
 wpIn_region_lit (xD hno hd h)
theorem _root_.Go.Proofs.YtdbfmikeaoaebaaGreatDoor.Blk.kept{row:Option Nat}{l:List Value}(h:Blk w b l)(hg:w.grownBy w' row)(hr:∀r,row=some r→∃o:Obj,w.heap[r]? = some o∧o.isCells=false):Blk w' b l:=by
 have hne:some b≠row:=fun e=>by
  obtain⟨o,h1,h2⟩:=hr b e.symm;obtain⟨t,ht⟩:=h;rw [ht] at h1;cases h1;cases h2
 exact h.of_block (hg.block b h.lt hne)
theorem qX{l:List Value}(h:Only (fun k=>k=g) w w')(hg:Blk w g l):KeepsFrom B w w':=⟨h.size,fun k o _ hk ho=>by
 have hlt:=(Array.getElem?_eq_some_iff.1 hk).1
 refine (h.block k hlt fun e=>?_).trans hk
 subst e
 obtain⟨t,ht⟩:=hg
 rw [ht] at hk
 cases hk
 cases ho⟩
theorem YI(h:Below w.heap.size w w'):KeepsFrom B w w':=⟨h.size,fun k o _ hk _=>(h.block k (Array.getElem?_eq_some_iff.1 hk).1).trans hk⟩
def J4l(o:Oper):Bool:=match o.op with|.defer _=>false|_=>true
theorem YJ{ops:List Oper}(h:ops.all J4l=true):∀o∈ops,∀c,o.op≠.defer c:=fun o ho c e=>by
 have:=List.all_eq_true.1 h o ho;simp [J4l,e] at this
theorem J2r(off:Int)(l:List Int)(hl:l.length≤1000)(h:Fits off l)(w:World):Calls Tryz.prog 187 #[.int .i64 off,.int .i64 l.length] w fun e w'=>e=.returned .nilIface∧w=w':=by
 obtain⟨h1,h2,h3⟩:=h;have g1:((l.length:Int) == 0)=false:=by rw [beq_eq_false_iff_ne];omega
 have g2:decide (off<0)=false:=by simp;omega
 have g4:IntKind.i64.wrap (32-(l.length:Int))=32-(l.length:Int):=JQ (by omega) (by omega);have g3:decide (32-(l.length:Int)<off)=false:=by simp;omega
 clear h1 h2 h3;go_enter Tryz.func187,Tryz.ntmps187
 go_wp2_with fail
 go_ret;exact⟨rfl,rfl⟩
theorem J4m:Tryz.prog.underlying 43=some (.array (Tryz.prog.arrayLen 43) (Tryz.prog.elem 43))∧Tryz.prog.arrayLen 43=32∧Tryz.prog.elem 43=5:=⟨by kernel_rfl,by kernel_rfl,by kernel_rfl⟩
theorem J2s(w:World)(g:Nat)(o:Nat)(l:o<32):(Instr.sliceAt 43 (.pointer (some ⟨g,0,none⟩)) (some (.int .i64 o)) none none).run Tryz.prog w=.ok (.slice (some ⟨g,o,none⟩) (32-o) (32-o)) w:=by
 obtain⟨i,hi,hs⟩:=KV Xb;rw [run_sliceAt_array_l w 43 ⟨g,0,none⟩ J4m.1 .i64 o (by omega) (by rw [J4m.2.1];omega),J4m.2.2,J4m.2.1];simp only [sizeOf,typeInfo,Sem.run_bind,run_program,hi,Result.andThen_ok,Sem.run_pure,hs,slicedAt,Int.toNat_natCast];rw [if_neg (by omega)];simp [Addr.add];omega
theorem km(w:World)(ev:Operand→Value)(op:Oper)(x y:Operand)(ho:op.op=.slice 43 x (some y) none none)(g o:Nat)(hx:ev x=.pointer (some ⟨g,0,none⟩))(hy:ev y=.int .i64 o)(l:o<32) :
 (execOp ev op).run Tryz.prog w=.ok (.value (.slice (some ⟨g,o,none⟩) (32-o) (32-o))) w:=by
 unfold execOp;simp only [ho,hx,hy,Option.map_some,Option.map_none,Sem.run_bind,J2s w g o l,Result.andThen_ok,Sem.run_pure]
theorem u8s_noStr(l:List Int):∀v∈u8s l,∀t,v≠.string t:=fun v hv t e=>by
 obtain⟨z,_,rfl⟩:=List.mem_map.1 hv;cases e
theorem store_W{x:Operand}{l:List Value}(dst:Option Tmp)(hd:o.dst=dst)(ho:o.op=.store t x y)(hb:Blk w g l)(hl:l.length=cs.size)(hi:(Tryz.prog.info? t).map (·.size)=some cs.size)(h1:∀v∈cs,v.oneCell'=true)(hx:a.eval x=.pointer (some ⟨g,0,none⟩))(hy:a.eval y=.agg cs)(h:∀wX,Blk wX g cs.toList→Only (fun k=>k=g) w wX→K (a.put dst undef) wX):o.wp Tryz.prog a w K Q:=by
 subst hd;refine Kp t x y ho g 0 cs hx hy l hb hi (by omega) h1 ?_;have:=hb.row (Jt l 0 cs);rw [JW _ _ hl] at this ⊢;exact h _ this ((Only.refl (fun k=>k=g) w).setRow (.inl rfl) _)
theorem of_none(w:World):Calls Tryz.prog 36 #[.nilIface] w fun e w'=>e=.returned (.int .i64 0)∧Below w.heap.size w w' :=
 (jw w).mono fun e w' ⟨h1,h2⟩=>by subst h2;exact⟨h1,Below.refl _ _⟩
theorem qw{p:List Int}(hp:p.length=32)(o:Nat)(h:Fits o l):(JD p o l).length=32:=by rw [Yp (by have:=h.2.2;omega),hp]
theorem J06(p l:List Int)(hp:p.length=32)(o:Nat)(sv:Value)(hl:l.length≤1000)(h:Fits o l)(w:World)(hbs:BytesAt w sv l):Calls Tryz.prog 180 #[.agg (u8s p).toArray,.int .i64 o,sv] w (Zr w (.tuple #[.agg (u8s (JD p o l)).toArray,.nilIface])):=by
 have HZ32:=Zh (J1 32);have HP:=Zh hp;have HF:=Zh h;have HBL:Hid (Below w.heap.size w w):=Zh Zq;have HBY:=Zh hbs;obtain⟨sa,sc,he,-⟩:=hbs;have HE:=Zh he;clear he;clear hp h;have HLY:=Zh (qw HP.out o HF.out);go_enter Tryz.func180,Tryz.ntmps180;go_upto_region 0 with fail;refine Zl ?_;refine JV (cs:=(u8s p).toArray) rfl rfl ?_;intro w1 hA hb hl;refine nm ?_;clear hl;have HG2:Hid (w.heap.size≤w.heap.size):=Zh HBL.size;have F3:=Zh (HBL.trans (hb.mono HBL.size));clear HBL;have F4:Hid (Blk w1 w.heap.size (u8s p)):=Zh hA;clear hA hb;refine J4 QB rfl ?_;intro w5 hA hb hl;refine nm ?_;clear hl;have HN6:=Zh (Nat.ne_of_lt F4.lt);have HG7:Hid (w.heap.size≤w1.heap.size):=Zh F3.size;have F8:=Zh (F3.trans (hb.mono F3.size));have F9:=Zh (F4.below hb F4.lt);clear F3 F4;have F10:Hid (Blk w5 w1.heap.size (u8s (zeros 32))):=Zh hA;clear hA hb;generalize w1.heap.size=g11 at *;clear w1;refine tk (Value.nilIface) ?_;go_upto_region 1 with fail;refine Zl ?_;refine tk (.int .i64 o) ?_;refine tk (sv) ?_ (hr:=by have hq:=HE.out;rw [hq];go_simp);refine tk (.int .i64 l.length) ?_ (hr:=by have hq:=HE.out;rw [hq];go_simp);refine J0 rfl fun K hK=>?_;go_simp;refine (J2r _ l hl HF.out _).mono ?_;rintro e w12 ⟨rfl,rfl⟩;refine hK _ _ (nm ?_);clear hK K;refine tk (Value.nilIface) ?_;go_upto_region 2 with fail;refine Zl ?_;refine tk (Value.nilIface) ?_;refine tk (.bool false) ?_;go_upto_region 4 with fail;refine Zl ?_;refine tk (.int .i64 o) ?_;refine tk (.slice (some ⟨w.heap.size,o,none⟩) (32-o) (32-o)) ?_ (hr:=(km _ _ _ _ _ rfl w.heap.size o rfl rfl (by obtain⟨h1,h2,h3⟩:=HF.out;omega)));refine tk (sv) ?_ (hr:=by have hq:=HE.out;rw [hq];go_simp);have HB2:=HBY.below F8.out;obtain⟨p',q',cap',hsv',hsrc⟩:=HB2.has HF.out.2.1;have hfit:=HF.out.2.2;refine J0 rfl fun K hK=>?_;refine ZF _ _ rfl Tryz.underlying80 Xb w.heap.size o (32-o) (32-o) p' q' l.length cap' rfl hsv' (u8s p) l F9.out (Nat.min_eq_left (by omega)).symm hsrc (by rw [List.length_map,HP.out];omega) (some 21) rfl fun w13 hD hO=>?_;refine hK _ _ ?_;clear hK K HB2 hsv' hsrc hfit;refine nm ?_;rw [Qt] at hD;have F14:=Zh (F8.trans (hO.below F8.size (fun k hk=>by rw [hk];exact HG2.out)));have F15:=Zh (F10.only hO (HN6.symm));clear F8 F10 F9;have FL:Hid (Blk w13 w.heap.size (u8s (JD p o l))):=Zh hD;clear hD hO;go_upto_region 5 with fail;refine Zl ?_;refine KX (cs:=(u8s (JD p o l)).toArray) (Blk.all FL.out rfl) (by rw [J2,HLY.out]) rfl rfl ?_;refine nm ?_;refine J3 (cs:=(u8s (JD p o l)).toArray) F15.out (by simp only [J2,List.size_toArray,List.length_append,List.length_singleton,List.length_map,HLY.out,HZ32.out]) (by rw [J2,HLY.out];exact Kl) (Jj _) rfl rfl rfl ?_;intro w16 hD hO hlD;refine nm ?_;clear hlD;have F17:=Zh (F14.trans (hO.below F14.size (fun k hk=>by rw [hk];exact HG7.out)));have F18:=Zh (FL.only hO (HN6.out));clear F14 FL F15;have F10':Hid (Blk w16 g11 (u8s (JD p o l))):=Zh hD;clear hD hO;refine tk (Value.nilIface) ?_;go_wp2_with fail
 exact bodyPost_ret (v:=.tuple #[.agg (u8s (JD p o l)).toArray,Value.nilIface]) (results_cell_tmp rfl _ _ g11 0 _ _ _ rfl rfl Tryz.underlying43 rfl (by rw [J2,HLY.out];exact Kl) (Blk.all F10'.out rfl)) rfl ⟨rfl,F17.out⟩
theorem J6w(p l:List Int)(hp:p.length=32)(o:Nat)(sv:Value)(hl:l.length≤1000)(h:Fits o l)(w:World)(hbs:BytesAt w sv l)(hev:ErrVar w):Calls Tryz.prog 168 #[.agg (u8s p).toArray,.int .i64 o,sv] w (Zr w (.tuple #[.agg (u8s (JD p o l)).toArray,.int .i64 0])):=by
 have HZ32:=Zh (J1 32);have HP:=Zh hp;have HF:=Zh h;have HBL:Hid (Below w.heap.size w w):=Zh Zq;have HBY:=Zh hbs;obtain⟨sa,sc,he,-⟩:=hbs;have HE:=Zh he;clear he;clear hp h;have HLY:=Zh (qw HP.out o HF.out);have HEV:=Zh hev;have HE0:=Zh hev.lt;clear hev;go_enter Tryz.func168,Tryz.ntmps168;go_upto_region 0 with fail;refine Zl ?_;refine JV (cs:=(u8s p).toArray) rfl rfl ?_;intro w1 hA hb hl;refine nm ?_;clear hl;have HG2:Hid (w.heap.size≤w.heap.size):=Zh HBL.size;have F3:=Zh (HBL.trans (hb.mono HBL.size));have F4:=Zh (HEV.below Zy hb);clear HBL HEV;have F5:Hid (Blk w1 w.heap.size (u8s p)):=Zh hA;clear hA hb;refine J4 QB rfl ?_;intro w6 hA hb hl;refine nm ?_;clear hl;have HN7:=Zh (Nat.ne_of_lt F5.lt);have HG8:Hid (w.heap.size≤w1.heap.size):=Zh F3.size;have F9:=Zh (F3.trans (hb.mono F3.size));have F10:=Zh (F4.below Zy hb);have F11:=Zh (F5.below hb F5.lt);clear F3 F4 F5;have F12:Hid (Blk w6 w1.heap.size (u8s (zeros 32))):=Zh hA;clear hA hb;generalize w1.heap.size=g13 at *;clear w1;refine tk (.int .i64 0) ?_;go_upto_region 1 with fail;refine Zl ?_;refine KX (cs:=(u8s p).toArray) (Blk.all F11.out rfl) (by rw [J2,HP.out]) rfl rfl ?_;refine nm ?_;refine tk (.int .i64 o) ?_;refine tk (sv) ?_ (hr:=by have hq:=HE.out;rw [hq];go_simp);refine J0 rfl fun K hK=>?_;go_simp;refine (J06 p l HP.out o sv hl HF.out _ (HBY.below F9.out)).mono ?_;rintro e w14 ⟨rfl,hb⟩;have F15:=Zh (F9.trans (hb.mono F9.size));have F16:=Zh (F10.below Zy hb);have F17:=Zh (F11.below hb F11.lt);have F18:=Zh (F12.below hb F12.lt);clear F9 F10 F11 F12;clear hb;refine hK _ _ (nm ?_);clear hK K;refine tk (.tuple #[.agg (u8s (JD p o l)).toArray,Value.nilIface]) ?_;refine tk (.agg (u8s (JD p o l)).toArray) ?_;refine tk (Value.nilIface) ?_;refine J4 QB rfl ?_;intro w19 hA hb hl;refine nm ?_;clear hl;refine J3 (cs:=(u8s (JD p o l)).toArray) hA (by simp only [J2,List.size_toArray,List.length_append,List.length_singleton,List.length_map,HLY.out,HZ32.out]) (by rw [J2,HLY.out];exact Kl) (Jj _) rfl rfl rfl ?_;intro w20 hD hO hlD;refine nm ?_;clear hlD hA;have hbb:Below w14.heap.size w14 w20:=hb.trans (hO.below hb.size fun k hk=>Nat.le_of_eq hk.symm);clear hb hO;have HN21:=Zh (Nat.ne_of_lt F17.lt);have HN22:=Zh (Nat.ne_of_lt F18.lt);have HG23:Hid (w.heap.size≤w14.heap.size):=Zh F15.size;have F24:=Zh (F15.trans (hbb.mono F15.size));have F25:=Zh (F16.below Zy hbb);have F26:=Zh (F17.below hbb F17.lt);have F27:=Zh (F18.below hbb F18.lt);clear F15 F16 F17 F18;have F28:Hid (Blk w20 w14.heap.size (u8s (JD p o l))):=Zh hD;clear hD hbb w19;generalize w14.heap.size=g29 at *;clear w14;refine tk (Value.nilIface) ?_;go_upto_region 2 with fail;refine J9 (fun wq=>Only (fun k=>k=g13) w20 wq) (by kernel_rfl) ?_;refine th 0 17 (.agg (u8s (JD p o l)).toArray) (Only.refl _ _).drew ?_ (hy:=fun wq hS=>by exact exec_load_at wq _ _ 43 _ rfl g29 0 rfl ((u8s (JD p o l)).toArray) _ Tryz.underlying43 rfl (by rw [J2,HLY.out];exact Kl) (Blk.all (F28.only hS (HN22.symm)) rfl));refine th 1 18 (Value.nilIface) (Only.refl _ _).drew ?_;refine Zo 2 fun K hK=>?_;go_simp;refine (of_none _).mono ?_;rintro e wx ⟨rfl,hb⟩;have HS1:=Zh (((Only.refl (fun k=>k=g13) w20).drew).trans (Only.of_below hb));have HB1:=Zh ((F27.drew).below hb F27.drew.lt);clear hb;refine hK _ _ HS1.out (nm ?_);clear hK K;refine Zo 3 fun K hK=>?_
 refine store_W none rfl rfl HB1.out (by simp only [J2,List.size_toArray,List.length_append,List.length_singleton,List.length_map,HLY.out,HZ32.out]) (by rw [J2,HLY.out];exact Kl) (Jj _) rfl rfl fun wy hD hO=>?_;have HS2:=Zh (HS1.trans hO);have HD2:=Zh hD;clear hD hO;refine hK _ _ HS2.out (nm ?_);clear hK K;refine th 4 7 (.int .i64 0) HS2.out ?_;refine Zd ?_
 go_wp2_with fail
 exact bodyPost_ret (v:=.tuple #[.agg (u8s (JD p o l)).toArray,.int .i64 0]) (results_cell_tmp rfl _ _ g13 0 _ _ _ rfl rfl Tryz.underlying43 rfl (by rw [J2,HLY.out];exact Kl) (Blk.all HD2.out rfl)) rfl ⟨rfl,(F24.trans (HS2.below F24.size (fun k hk=>by rw [hk];exact HG8.out)))⟩
theorem Jbb(b:Bk)(sv:Value)(hw:b.Wf)(w:World):Calls Tryz.prog 166 #[.agg (b.arr sv)] w (Zr w (.bool b.ends)):=by
 have H:=BAt.box hw sv w;have c0:=H.c0;have c36:=H.c36;clear H
 by_cases h1:b.kind=1
 all_goals
  go_enter Tryz.func166,Tryz.ntmps166
  go_wp2_with fail
  go_ret;exact⟨Jb (by simp [Bk.ends,h1,ZE]),box_below _ _ _⟩
theorem XY(s:ByteArray)(w:World):Calls Tryz.prog 56 #[.int .i64 11,.string s] w fun e w'=>∃T d t ts,e=.returned (.iface T d)∧Chain w' 11 (t::ts) (.iface T d)∧Below w.heap.size w w' :=
 (Qf 11 s w rfl).mono fun e w' ⟨v,h1,h2,h3⟩=>by
  obtain⟨T,d,rfl⟩:=h2.shape;exact⟨T,d,_,_,h1,h2,h3⟩
theorem J6x(T:TypeId)(d:Value)(t:ByteArray)(ts:List ByteArray)(s:ByteArray)(w:World)(h:Chain w 11 (t::ts) (.iface T d)):Calls Tryz.prog 59 #[.iface T d,.string s] w fun e w'=>∃T d t ts,e=.returned (.iface T d)∧Chain w' 11 (t::ts) (.iface T d)∧Below w.heap.size w w' :=
 (XT _ 11 t ts s w h).mono fun e w' ⟨v,h1,h2,h3⟩=>by
  obtain⟨T,d,rfl⟩:=h2.shape;exact⟨T,d,_,_,h1,h2,h3⟩
def NC(L:List Bk)(e:Ending)(w':World):Prop:=(JF L=true∧e=.returned .nilIface)∨(JF L=false∧∃T d t ts,e=.returned (.iface T d)∧Chain w' 11 (t::ts) (.iface T d))
theorem NC.no{L:List Bk}{d:Value}{t:ByteArray}{ts:List ByteArray}(h:JF L=false)(hc:Chain w' 11 (t::ts) (.iface T d)):NC L (.returned (.iface T d)) w':=.inr ⟨h,T,d,t,ts,rfl,hc⟩
theorem Jbc{L:List Bk}{b h:Bk}(hk:L[k]? = some b)(h0:L[0]? = some h)(hn:¬okAt h.id (decide (k+1=L.length)) b=true):JF L=false:=by
 rw [←Bool.not_eq_true];intro hc;exact hn (((QW L).1 hc).2 h h0 k b hk)
theorem jW(l:List (Bk×Value))(n:Nat)(hn:l.length=n)(sv:Value)(w:World)(h:BlksAt w sv l):Calls Tryz.prog 147 #[sv] w fun e w'=>NC (l.map (·.1)) e w'∧Below w.heap.size w w':=by
 by_cases h3:3<n
 · obtain⟨a,cap,rfl,-⟩:=h;rw [hn];have hno:Hid (JF (l.map (·.1))=false):=Zh (by
    rw [←Bool.not_eq_true,QW]
    simp
    omega)
   have g1:decide (3<(n:Int))=true:=decide_eq_true (by omega);clear hn h3;go_enter Tryz.func147,Tryz.ntmps147
   go_wp2_with fail
   refine (XY _ _).mono ?_;rintro e w9 ⟨T,d,t,ts,rfl,hc,hb⟩;have HB9:=Zh hb;have HC9:=Zh hc;clear hc hb
   go_wp2_with fail
   go_ret;exact⟨NC.no hno.out HC9.out,HB9.out⟩
 rcases Nat.eq_zero_or_pos n with rfl|hpos
 · obtain rfl:l=[]:=List.eq_nil_of_length_eq_zero hn;obtain⟨a,cap,rfl,-⟩:=h;clear hn h3;go_enter Tryz.func147,Tryz.ntmps147
   go_wp2_with fail
   go_loopg [12] 0 (fun q i wr=>i=.int .i64 0∧wr=w)
   case atStart=>exact⟨rfl,rfl⟩
   case round =>
    obtain⟨rfl,rfl⟩:=hrel
    go_wp2_with fail
    go_ret;exact⟨.inl ⟨rfl,rfl⟩,Below.refl _ _⟩
 obtain⟨g,o,cap,rfl,hg,hc⟩:=h.has (by omega);rw [hn];have g1:decide (3<(n:Int))=false:=decide_eq_false (by omega);have HN:=Zh hn;have HC:=Zh hc;have HG:=Zh hg;clear hn hc hg h;go_enter Tryz.func147,Tryz.ntmps147
 go_wp2_with fail
 go_loopg [12] n (fun q i wr=>∃k:Nat,n-k≤q∧k≤n∧i=.int .i64 k∧(∀j x y,j<k→l[j]? = some x→l[0]? = some y→okAt y.1.id (decide (j+1=n)) x.1=true)∧Below w.heap.size w wr)
 case atStart=>exact⟨0,by omega,by omega,rfl,fun j x y hj=>by omega,Below.refl _ _⟩
 case round =>
  obtain⟨k,hq,hk,rfl,hall,hb⟩:=hrel;have HALL:=Zh hall;have HB:=Zh hb;clear hall hb
  by_cases hlt:k<n
  · obtain⟨x,hx⟩:∃x,l[k]? = some x:=⟨_,List.getElem?_eq_getElem (by have:=HN.out;omega)⟩
    obtain⟨b,bv⟩:=x;obtain⟨y,hy⟩:∃y,l[0]? = some y:=⟨_,List.getElem?_eq_getElem (by have:=HN.out;omega)⟩
    obtain⟨b0,bv0⟩:=y;obtain⟨x1,x2,x3⟩:=HC.out k _ hx;obtain⟨y1,y2,y3⟩:=HC.out 0 _ hy;have HW:=Zh x1;have HLN:=Zh x2.len;have F1:=Zh (x3.below HB.out HG.out);have Y1:Hid (w.cell? ⟨g,o+1,none⟩=some (.int .i64 b0.id)):=Zh (by
     have:=y3 1 (by rw [Bk.arr_size y1];decide)
     simpa [Bk.arr,Bk.cells] using this)
    have HX:=Zh hx;have HY:=Zh hy;have HNW:=Zh Bk.none_wf;have HNL:Hid (Len (.slice none 0 0) 0):=Zh ⟨none,0,rfl⟩;have HNO:Hid (okAt b0.id (decide (k+1=n)) b=false→JF (l.map (·.1))=false):=Zh fun hno=>Jbc (k:=k) (b:=b) (h:=b0) (by rw [List.getElem?_map,hx];rfl) (by rw [List.getElem?_map,hy];rfl) (by rw [List.length_map,HN.out,hno];decide);have HST:Hid (okAt b0.id (decide (k+1=n)) b=true→∀j x y,j<k+1→l[j]? = some x→l[0]? = some y→okAt y.1.id (decide (j+1=n)) x.1=true):=Zh fun hok j x y hj e1 e2=>by
     rcases Nat.lt_succ_iff_lt_or_eq.1 hj with hj|rfl
     · exact HALL.out j x y hj e1 e2
     · rw [hx] at e1;rw [hy] at e2;cases e1;cases e2;exact hok
    have HGD:=Zh fun w=>QT b bv HLN.out HW.out w;have HEN:=Zh fun w=>Jbb b bv HW.out w;obtain⟨lst,hl⟩:∃lst,decide (k+1=n)=lst:=⟨_,rfl⟩
    rw [hl] at HNO HST;have gl:Hid (((k:Int) == (n:Int)-1)=lst):=Zh (by
     rw [←hl,ZE]
     by_cases h:k+1=n
     · rw [decide_eq_true h];simp;omega
     · rw [decide_eq_false h];simp;omega)
    have gw:Hid (IntKind.i64.wrap ((n:Int)-1)=(n:Int)-1):=Zh (by rw [IntKind.wrap_i64];omega);have gk:decide ((k:Int)<(n:Int))=true:=decide_eq_true (by omega);clear x1 x2 x3 y1 y2 y3 hx hy hl;go_upto_region 5 with fail;refine Zl ?_;refine tk (.int .i64 k) ?_;refine tk (.pointer (some ⟨g,o+k*45,none⟩)) ?_;refine JJ (cs:=b.arr bv) F1.out (b.arr_size HW.out bv) rfl rfl ?_;refine nm ?_;clear F1;refine J4 zero82b rfl ?_;intro w1 hA hb hl;refine nm ?_;clear hl;have HG2:Hid (w.heap.size≤wr.heap.size):=Zh HB.size;have F3:=Zh (HB.trans (hb.mono HB.size));clear HB;have F4:Hid (Blk w1 wr.heap.size (Bk.none.cells (.slice none 0 0))):=Zh hA;clear hA hb;generalize wr.heap.size=g5 at *;clear wr;refine tk (.int .i64 k) ?_;refine J3 (cs:=(b.arr bv)) F4.out (same82 HNW.out HW.out _ _) (info82s HW.out _) (Bk.arr_one (Qp HLN.out)) rfl rfl rfl ?_;intro w6 hD hO hlD;refine nm ?_;clear hlD;have F7:=Zh (F3.trans (hO.below F3.size (fun k hk=>by rw [hk];exact HG2.out)));clear F3 F4;have F4':Hid (Blk w6 g5 (b.cells bv)):=Zh hD;clear hD hO;go_upto_region 6 with fail;refine Zl ?_;refine tk (.int .i64 k) ?_;refine tk (.slice (some ⟨g,o,none⟩) n cap) ?_;refine tk (.int .i64 n) ?_;refine tk (.int .i64 ((n:Int)-1)) ?_ (hr:=by have hq:=gw.out;go_simp);refine tk (.bool lst) ?_ (hr:=by have hq:=gl.out;go_simp);refine tk (.bool lst) ?_;refine Zn ?_;cases hgd:b.good
    · rw [hgd] at HGD;go_upto_region 7 with fail;refine Zl ?_;refine JJ (cs:=(b.arr bv)) (Blk.all F4'.out rfl) (b.arr_size HW.out bv) rfl rfl ?_;refine nm ?_;refine J0 rfl fun K hK=>?_;go_simp;refine (HGD.out _).mono ?_;rintro e w8 ⟨rfl,hb⟩;have F9:=Zh (F7.trans (hb.mono F7.size));have F10:=Zh (F4'.out.below hb F4'.out.lt);clear F7 F4';clear hb;refine hK _ _ (nm ?_);clear hK K;refine tk (.bool true) ?_;refine tk (.bool true) ?_;go_wp2_with fail
      refine (XY _ _).mono ?_;rintro e w9 ⟨T,d,t,ts,rfl,hc,hb⟩;have HB9:=Zh (F9.trans (hb.mono F9.size));have HC9:=Zh hc;clear hc hb
      go_wp2_with fail
      go_ret;exact⟨NC.no (HNO.out (by simp [okAt,hgd])) HC9.out,HB9.out⟩
    rw [hgd] at HGD;go_upto_region 7 with fail;refine Zl ?_;refine JJ (cs:=(b.arr bv)) (Blk.all F4'.out rfl) (b.arr_size HW.out bv) rfl rfl ?_;refine nm ?_;refine J0 rfl fun K hK=>?_;go_simp;refine (HGD.out _).mono ?_;rintro e w8 ⟨rfl,hb⟩;have F9:=Zh (F7.trans (hb.mono F7.size));have F10:=Zh (F4'.out.below hb F4'.out.lt);clear F7 F4';clear hb;refine hK _ _ (nm ?_);clear hK K;refine tk (.bool false) ?_;refine tk (.bool false) ?_;refine Zn ?_
    by_cases hk3:b.kind=3
    · have hcell:=(F10.cell (i:=0) (v:=.int .i64 b.kind) (b.at0 _))
      have g3:(b.kind == 3)=true:=by simp [hk3]
      go_upto_region 10 with fail;clear hcell
      go_wp2_with fail
      refine (XY _ _).mono ?_;rintro e w9 ⟨T,d,t,ts,rfl,hc,hb⟩;have HB9:=Zh (F9.trans (hb.mono F9.size));have HC9:=Zh hc;clear hc hb
      go_wp2_with fail
      go_ret;exact⟨NC.no (HNO.out (by simp [okAt,hk3])) HC9.out,HB9.out⟩
    have hcell:=(F10.cell (i:=0) (v:=.int .i64 b.kind) (b.at0 _))
    have g3:(b.kind == 3)=false:=by simp [hk3]
    go_upto_region 11 with fail;clear hcell g3
    by_cases hid:b.id=b0.id
    rotate_left
    · have g4:(b.id == b0.id)=false:=by simp [hid]
      go_upto_region 11 with fail;refine J9 (fun wq=>Below w8.heap.size w8 wq) (by kernel_rfl) ?_;refine th 0 33 (.pointer (some ⟨g5,1,none⟩)) Zq.drew ?_;refine th 1 34 (.int .i64 b.id) Zq.drew ?_ (hy:=fun wq hS=>by have hq:=(F10.below hS F10.lt).cell (i:=1) (v:=.int .i64 b.id) (b.at1 _);go_simp);refine th 2 35 (.slice (some ⟨g,o,none⟩) n cap) Zq.drew ?_;refine th 3 36 (.pointer (some ⟨g,o,none⟩)) Zq.drew ?_;refine th 4 37 (.pointer (some ⟨g,o+1,none⟩)) Zq.drew ?_;refine th 5 38 (.int .i64 b0.id) Zq.drew ?_ (hy:=fun wq hS=>by have hq:=((F9.trans (hS.mono F9.size)).cell (p:=⟨g,o+1,none⟩) HG.out).trans Y1.out;go_simp);refine th 6 39 (.bool true) Zq.drew ?_;refine th 7 32 (.bool true) Zq.drew ?_;refine Zd ?_;have hb:Below w8.heap.size w8 w8.drew:=Zq.drew;generalize w8.drew=w11 at *;have F12:=Zh (F9.trans (hb.mono F9.size));have F13:=Zh (F10.below hb F10.lt);clear F9 F10;clear hb;go_upto_region 12 with fail
      go_wp2_with fail
      refine (XY _ _).mono ?_;rintro e w9 ⟨T,d,t,ts,rfl,hc,hb⟩;have HB9:=Zh (F12.trans (hb.mono F12.size));have HC9:=Zh hc;clear hc hb
      go_wp2_with fail
      go_ret;exact⟨NC.no (HNO.out (by simp [okAt,hid])) HC9.out,HB9.out⟩
    have g4:(b.id == b0.id)=true:=by simp [hid]
    go_upto_region 11 with fail;refine J9 (fun wq=>Below w8.heap.size w8 wq) (by kernel_rfl) ?_;refine th 0 33 (.pointer (some ⟨g5,1,none⟩)) Zq.drew ?_;refine th 1 34 (.int .i64 b.id) Zq.drew ?_ (hy:=fun wq hS=>by have hq:=(F10.below hS F10.lt).cell (i:=1) (v:=.int .i64 b.id) (b.at1 _);go_simp);refine th 2 35 (.slice (some ⟨g,o,none⟩) n cap) Zq.drew ?_;refine th 3 36 (.pointer (some ⟨g,o,none⟩)) Zq.drew ?_;refine th 4 37 (.pointer (some ⟨g,o+1,none⟩)) Zq.drew ?_;refine th 5 38 (.int .i64 b0.id) Zq.drew ?_ (hy:=fun wq hS=>by have hq:=((F9.trans (hS.mono F9.size)).cell (p:=⟨g,o+1,none⟩) HG.out).trans Y1.out;go_simp);refine th 6 39 (.bool false) Zq.drew ?_;refine th 7 32 (.bool false) Zq.drew ?_;refine Zd ?_;have hb:Below w8.heap.size w8 w8.drew:=Zq.drew;generalize w8.drew=w11 at *;have F12:=Zh (F9.trans (hb.mono F9.size));have F13:=Zh (F10.below hb F10.lt);clear F9 F10;clear hb;cases hen:b.ends
    · rw [hen] at HEN;cases lst
      · go_upto_region 13 with fail;refine Zl ?_;refine JJ (cs:=(b.arr bv)) (Blk.all F13.out rfl) (b.arr_size HW.out bv) rfl rfl ?_;refine nm ?_;refine J0 rfl fun K hK=>?_;go_simp;refine (HEN.out _).mono ?_;rintro e w14 ⟨rfl,hb⟩;have F15:=Zh (F12.trans (hb.mono F12.size));have F16:=Zh (F13.below hb F13.lt);clear F12 F13;clear hb;refine hK _ _ (nm ?_);clear hK K;refine tk (.bool false) ?_
        iterate 2 refine ps ?_
        refine tk (.bool false) ?_;refine tk (.bool false) ?_;go_upto_region 15 with fail;refine Zl ?_;refine JJ (cs:=(b.arr bv)) (Blk.all F16.out rfl) (b.arr_size HW.out bv) rfl rfl ?_;refine nm ?_;refine J0 rfl fun K hK=>?_;go_simp;refine (HEN.out _).mono ?_;rintro e w17 ⟨rfl,hb⟩;have F18:=Zh (F15.trans (hb.mono F15.size));have F19:=Zh (F16.below hb F16.lt);clear F15 F16;clear hb;refine hK _ _ (nm ?_);clear hK K;refine tk (.bool true) ?_;refine tk (.bool true) ?_;refine tk (.bool false) ?_;refine tk (.bool false) ?_;refine tk (.bool false) ?_;go_wp2_with fail
        go_roundg (n-(k+1))
        case measure=>omega
        case rel=>exact⟨k+1,by omega,by omega,by go_num,HST.out (by simp [okAt,hgd,hk3,hid,hen]),F18.out⟩
      · go_upto_region 13 with fail;refine Zl ?_;refine JJ (cs:=(b.arr bv)) (Blk.all F13.out rfl) (b.arr_size HW.out bv) rfl rfl ?_;refine nm ?_;refine J0 rfl fun K hK=>?_;go_simp;refine (HEN.out _).mono ?_;rintro e w14 ⟨rfl,hb⟩;have F15:=Zh (F12.trans (hb.mono F12.size));have F16:=Zh (F13.below hb F13.lt);clear F12 F13;clear hb;refine hK _ _ (nm ?_);clear hK K;refine tk (.bool false) ?_
        iterate 2 refine ps ?_
        refine tk (.bool false) ?_;refine tk (.bool false) ?_;go_upto_region 15 with fail;refine Zl ?_;refine JJ (cs:=(b.arr bv)) (Blk.all F16.out rfl) (b.arr_size HW.out bv) rfl rfl ?_;refine nm ?_;refine J0 rfl fun K hK=>?_;go_simp;refine (HEN.out _).mono ?_;rintro e w17 ⟨rfl,hb⟩;have F18:=Zh (F15.trans (hb.mono F15.size));have F19:=Zh (F16.below hb F16.lt);clear F15 F16;clear hb;refine hK _ _ (nm ?_);clear hK K;refine tk (.bool true) ?_;refine tk (.bool true) ?_;refine tk (.bool true) ?_;refine tk (.bool true) ?_;refine tk (.bool true) ?_;go_upto_region 16 with fail
        go_wp2_with fail
        refine (XY _ _).mono ?_;rintro e w9 ⟨T,d,t,ts,rfl,hc,hb⟩;have HB9:=Zh (F18.trans (hb.mono F18.size));have HC9:=Zh hc;clear hc hb
        go_wp2_with fail
        go_ret;exact⟨NC.no (HNO.out (by simp [okAt,hen])) HC9.out,HB9.out⟩
    · rw [hen] at HEN;cases lst
      · go_upto_region 13 with fail;refine Zl ?_;refine JJ (cs:=(b.arr bv)) (Blk.all F13.out rfl) (b.arr_size HW.out bv) rfl rfl ?_;refine nm ?_;refine J0 rfl fun K hK=>?_;go_simp;refine (HEN.out _).mono ?_;rintro e w14 ⟨rfl,hb⟩;have F15:=Zh (F12.trans (hb.mono F12.size));have F16:=Zh (F13.below hb F13.lt);clear F12 F13;clear hb;refine hK _ _ (nm ?_);clear hK K;refine tk (.bool true) ?_;refine tk (.bool false) ?_;refine tk (.bool true) ?_;refine tk (.bool true) ?_;refine tk (.bool true) ?_;go_upto_region 14 with fail
        go_wp2_with fail
        refine (XY _ _).mono ?_;rintro e w9 ⟨T,d,t,ts,rfl,hc,hb⟩;have HB9:=Zh (F15.trans (hb.mono F15.size));have HC9:=Zh hc;clear hc hb
        go_wp2_with fail
        go_ret;exact⟨NC.no (HNO.out (by simp [okAt,hen])) HC9.out,HB9.out⟩
      · go_upto_region 13 with fail;refine Zl ?_;refine JJ (cs:=(b.arr bv)) (Blk.all F13.out rfl) (b.arr_size HW.out bv) rfl rfl ?_;refine nm ?_;refine J0 rfl fun K hK=>?_;go_simp;refine (HEN.out _).mono ?_;rintro e w14 ⟨rfl,hb⟩;have F15:=Zh (F12.trans (hb.mono F12.size));have F16:=Zh (F13.below hb F13.lt);clear F12 F13;clear hb;refine hK _ _ (nm ?_);clear hK K;refine tk (.bool true) ?_;refine tk (.bool true) ?_;refine tk (.bool false) ?_;refine tk (.bool false) ?_;refine tk (.bool false) ?_;go_upto_region 15 with fail;refine Zl ?_;refine JJ (cs:=(b.arr bv)) (Blk.all F16.out rfl) (b.arr_size HW.out bv) rfl rfl ?_;refine nm ?_;refine J0 rfl fun K hK=>?_;go_simp;refine (HEN.out _).mono ?_;rintro e w17 ⟨rfl,hb⟩;have F18:=Zh (F15.trans (hb.mono F15.size));have F19:=Zh (F16.below hb F16.lt);clear F15 F16;clear hb;refine hK _ _ (nm ?_);clear hK K;refine tk (.bool false) ?_;refine tk (.bool false) ?_;refine ps ?_;refine tk (.bool false) ?_;refine tk (.bool false) ?_;go_wp2_with fail
        go_roundg (n-(k+1))
        case measure=>omega
        case rel=>exact⟨k+1,by omega,by omega,by go_num,HST.out (by simp [okAt,hgd,hk3,hid,hen]),F18.out⟩
  · obtain rfl:k=n:=by omega
    have gk:decide ((k:Int)<(k:Int))=false:=by simp
    go_wp2_with fail
    go_ret;refine⟨.inl ⟨(QW _).2 ⟨by rw [List.length_map,HN.out];omega,fun y0 hy j x hx=>?_⟩,rfl⟩,HB.out⟩;rw [List.getElem?_map] at hx hy;obtain⟨x',hx',rfl⟩:=Option.map_eq_some_iff.1 hx;obtain⟨y',hy',rfl⟩:=Option.map_eq_some_iff.1 hy;have hj:j<k:=by
     have:=(Zg hx').1;have:=HN.out;omega
    have:=HALL.out j x' y' hj hx' hy'
    rwa [List.length_map,HN.out]
theorem _root_.Go.Proofs.YtdbfmikeaoaebaaGreatDoor.Blk.page{b:Bk}(h:Blk w g (b.cells sv))(hw:b.Wf):At w g 2 (u8s b.page).toArray:=(BAt.mk h hw).page
theorem J2t(p:List Int)(hp:p.length=32)(b:Bk)(bv:Value)(hw:b.Wf)(hk:b.kind=1)(w:World)(hby:BytesAt w bv b.bytes)(hev:ErrVar w):Calls Tryz.prog 149 #[.agg (u8s p).toArray,.agg (b.arr bv)] w (Zr w (.tuple #[.agg (u8s (b.over p)).toArray,.nilIface])):=by
 have HZ32:=Zh (J1 32);have HP:=Zh hp;have HW:=Zh hw;have HLN:=Zh hby.len;have HBY:=Zh hby;have HEV:=Zh hev;have HBL:Hid (Below w.heap.size w w):=Zh Zq;have HPG:=Zh hw.page;have ho:b.over p=b.page:=by unfold Bk.over;rw [if_pos hk]
 rw [ho];have g1:(b.kind == 1)=true:=by simp [hk]
 clear ho hk;clear hp hw hby hev;go_enter Tryz.func149,Tryz.ntmps149;go_upto_region 0 with fail;refine Zl ?_;refine JV (cs:=(u8s p).toArray) rfl rfl ?_;intro w1 hA hb hl;refine nm ?_;clear hl;have HG2:Hid (w.heap.size≤w.heap.size):=Zh HBL.size;have F3:=Zh (HBL.trans (hb.mono HBL.size));clear HBL;have F4:Hid (Blk w1 w.heap.size (u8s p)):=Zh hA;clear hA hb;refine JV (cs:=(b.arr bv)) rfl rfl ?_;intro w5 hA hb hl;refine nm ?_;clear hl;have HN6:=Zh (Nat.ne_of_lt F4.lt);have HG7:Hid (w.heap.size≤w1.heap.size):=Zh F3.size;have F8:=Zh (F3.trans (hb.mono F3.size));have F9:=Zh (F4.below hb F4.lt);clear F3 F4;have F10:Hid (Blk w5 w1.heap.size (b.cells bv)):=Zh hA;clear hA hb;generalize w1.heap.size=g11 at *;clear w1;refine J4 QB rfl ?_;intro w12 hA hb hl;refine nm ?_;clear hl;have HN13:=Zh (Nat.ne_of_lt F9.lt);have HN14:=Zh (Nat.ne_of_lt F10.lt);have HG15:Hid (w.heap.size≤w5.heap.size):=Zh F8.size;have F16:=Zh (F8.trans (hb.mono F8.size));have F17:=Zh (F9.below hb F9.lt);have F18:=Zh (F10.below hb F10.lt);clear F8 F9 F10;have F19:Hid (Blk w12 w5.heap.size (u8s (zeros 32))):=Zh hA;clear hA hb;generalize w5.heap.size=g20 at *;clear w5;refine tk (Value.nilIface) ?_;go_upto_region 1 with fail;refine Zl ?_;refine tk (.pointer (some ⟨g11,0,none⟩)) ?_;refine tk (.int .i64 b.kind) ?_ (hr:=by have hq:=F18.cell (i:=0) (v:=.int .i64 b.kind) (b.at0 _);go_simp);refine tk (.bool true) ?_;go_upto_region 2 with fail;refine Zl ?_;refine tk (.pointer (some ⟨g11,2,none⟩)) ?_;refine KX (cs:=(u8s b.page).toArray) (Blk.page F18.out HW.out) (by rw [J2,HW.page]) rfl rfl ?_;refine nm ?_;refine J3 (cs:=(u8s b.page).toArray) F19.out (by simp only [J2,List.size_toArray,List.length_append,List.length_singleton,List.length_map,HPG.out,HZ32.out]) (by rw [J2,HPG.out];exact Kl) (Jj _) rfl rfl rfl ?_;intro w21 hD hO hlD;refine nm ?_;clear hlD;have F22:=Zh (F16.trans (hO.below F16.size (fun k hk=>by rw [hk];exact HG15.out)));have F23:=Zh (F17.only hO (HN13.out));have F24:=Zh (F18.only hO (HN14.out));clear F16 F17 F18 F19;have F19':Hid (Blk w21 g20 (u8s b.page)):=Zh hD;clear hD hO;refine tk (Value.nilIface) ?_;go_wp2_with fail
 exact bodyPost_ret (v:=.tuple #[.agg (u8s b.page).toArray,.nilIface]) (results_cell_tmp rfl _ _ g20 0 _ _ _ rfl rfl Tryz.underlying43 rfl (by rw [J2,HPG.out];exact Kl) (Blk.all F19'.out rfl)) rfl ⟨rfl,F22.out⟩
theorem J2u(p:List Int)(hp:p.length=32)(b:Bk)(bv:Value)(hw:b.Wf)(hk:¬b.kind=1)(hf:Fits b.off b.bytes)(w:World)(hby:BytesAt w bv b.bytes)(hev:ErrVar w):Calls Tryz.prog 149 #[.agg (u8s p).toArray,.agg (b.arr bv)] w (Zr w (.tuple #[.agg (u8s (b.over p)).toArray,.nilIface])):=by
 have HZ32:=Zh (J1 32);have HP:=Zh hp;have HW:=Zh hw;have HLN:=Zh hby.len;have HBY:=Zh hby;have HEV:=Zh hev;have HBL:Hid (Below w.heap.size w w):=Zh Zq;have HPG:=Zh hw.page;have ho:b.over p=JD p b.off.toNat b.bytes:=by unfold Bk.over;rw [if_neg hk]
 obtain⟨q,hq⟩:∃q,JD p b.off.toNat b.bytes=q:=⟨_,rfl⟩
 rw [ho,hq];have g1:(b.kind == 1)=false:=by simp [hk]
 obtain⟨o,ho2⟩:∃o:Nat,b.off=(o:Int):=⟨b.off.toNat,by have:=hf.1;omega⟩
 rw [ho2,Int.toNat_natCast] at hq;rw [ho2] at hf;have HF:=Zh hf;have HO:=Zh ho2;have HQ:=Zh hq;have HQL:Hid (q.length=32):=Zh (by rw [←hq];exact qw hp o hf);have HBN:Hid (b.bytes.length≤1000):=Zh (by have:=hf.2.2;omega);clear ho hk ho2 hq hf;clear hp hw hby hev;go_enter Tryz.func149,Tryz.ntmps149;go_upto_region 0 with fail;refine Zl ?_;refine JV (cs:=(u8s p).toArray) rfl rfl ?_;intro w1 hA hb hl;refine nm ?_;clear hl;have HG2:Hid (w.heap.size≤w.heap.size):=Zh HBL.size;have F3:=Zh (HBL.trans (hb.mono HBL.size));clear HBL;have F4:Hid (Blk w1 w.heap.size (u8s p)):=Zh hA;clear hA hb;refine JV (cs:=(b.arr bv)) rfl rfl ?_;intro w5 hA hb hl;refine nm ?_;clear hl;have HN6:=Zh (Nat.ne_of_lt F4.lt);have HG7:Hid (w.heap.size≤w1.heap.size):=Zh F3.size;have F8:=Zh (F3.trans (hb.mono F3.size));have F9:=Zh (F4.below hb F4.lt);clear F3 F4;have F10:Hid (Blk w5 w1.heap.size (b.cells bv)):=Zh hA;clear hA hb;generalize w1.heap.size=g11 at *;clear w1;refine J4 QB rfl ?_;intro w12 hA hb hl;refine nm ?_;clear hl;have HN13:=Zh (Nat.ne_of_lt F9.lt);have HN14:=Zh (Nat.ne_of_lt F10.lt);have HG15:Hid (w.heap.size≤w5.heap.size):=Zh F8.size;have F16:=Zh (F8.trans (hb.mono F8.size));have F17:=Zh (F9.below hb F9.lt);have F18:=Zh (F10.below hb F10.lt);clear F8 F9 F10;have F19:Hid (Blk w12 w5.heap.size (u8s (zeros 32))):=Zh hA;clear hA hb;generalize w5.heap.size=g20 at *;clear w5;refine tk (Value.nilIface) ?_;go_upto_region 1 with fail;refine Zl ?_;refine tk (.pointer (some ⟨g11,0,none⟩)) ?_;refine tk (.int .i64 b.kind) ?_ (hr:=by have hq:=F18.cell (i:=0) (v:=.int .i64 b.kind) (b.at0 _);go_simp);refine tk (.bool false) ?_;go_upto_region 3 with fail;refine Zl ?_;refine KX (cs:=(u8s p).toArray) (Blk.all F17.out rfl) (by rw [J2,HP.out]) rfl rfl ?_;refine nm ?_;refine tk (.pointer (some ⟨g11,34,none⟩)) ?_;refine tk (.int .i64 b.off) ?_ (hr:=by have hq:=F18.cell (i:=34) (v:=.int .i64 b.off) (b.at34 HW.out _);go_simp);refine tk (.pointer (some ⟨g11,35,none⟩)) ?_;refine tk (bv) ?_ (hr:=by have hq:=F18.cell (i:=35) (v:=bv) (b.at35 HW.out _);go_simp);have hq11:=J6w p b.bytes HP.out o bv HBN.out HF.out _ (HBY.below F16.out) (HEV.below Zy F16.out);rw [HQ.out,←HO.out] at hq11;refine J0 rfl fun K hK=>?_;go_simp;refine hq11.mono ?_;clear hq11;rintro e w21 ⟨rfl,hb⟩;have F22:=Zh (F16.trans (hb.mono F16.size));have F23:=Zh (F17.below hb F17.lt);have F24:=Zh (F18.below hb F18.lt);have F25:=Zh (F19.below hb F19.lt);clear F16 F17 F18 F19;clear hb;refine hK _ _ (nm ?_);clear hK K;refine tk (.tuple #[.agg (u8s q).toArray,.int .i64 0]) ?_;refine tk (.agg (u8s q).toArray) ?_;refine tk (.int .i64 0) ?_;refine J3 (cs:=(u8s q).toArray) F23.out (by simp only [J2,List.size_toArray,List.length_append,List.length_singleton,List.length_map,HP.out,HQL.out]) (by rw [J2,HQL.out];exact Kl) (Jj _) rfl rfl rfl ?_;intro w26 hD hO hlD;refine nm ?_;clear hlD;have F27:=Zh (F22.trans (hO.below F22.size (fun k hk=>by rw [hk];exact HG2.out)));have F28:=Zh (F24.only hO (HN6.symm));have F29:=Zh (F25.only hO (HN13.symm));clear F22 F24 F25 F23;have F4':Hid (Blk w26 w.heap.size (u8s q)):=Zh hD;clear hD hO;refine tk (.int .i64 0) ?_;go_upto_region 4 with fail;refine Zl ?_;refine tk (.int .i64 0) ?_;refine tk (.bool false) ?_;go_upto_region 6 with fail;refine Zl ?_;refine KX (cs:=(u8s q).toArray) (Blk.all F4'.out rfl) (by rw [J2,HQL.out]) rfl rfl ?_
 refine nm ?_;refine J3 (cs:=(u8s q).toArray) F29.out (by simp only [J2,List.size_toArray,List.length_append,List.length_singleton,List.length_map,HQL.out,HZ32.out]) (by rw [J2,HQL.out];exact Kl) (Jj _) rfl rfl rfl ?_;intro w30 hD hO hlD;refine nm ?_;clear hlD;have F31:=Zh (F27.trans (hO.below F27.size (fun k hk=>by rw [hk];exact HG15.out)));have F32:=Zh (F28.only hO (HN14.out));have F33:=Zh (F4'.out.only hO (HN13.out));clear F27 F28 F4' F29;have F19':Hid (Blk w30 g20 (u8s q)):=Zh hD;clear hD hO;refine tk (Value.nilIface) ?_;go_wp2_with fail
 exact bodyPost_ret (v:=.tuple #[.agg (u8s q).toArray,.nilIface]) (results_cell_tmp rfl _ _ g20 0 _ _ _ rfl rfl Tryz.underlying43 rfl (by rw [J2,HQL.out];exact Kl) (Blk.all F19'.out rfl)) rfl ⟨rfl,F31.out⟩
theorem Jbd(p:List Int)(hp:p.length=32)(b:Bk)(bv:Value)(hw:b.Wf)(hf:¬b.kind=1→Fits b.off b.bytes)(w:World)(hby:BytesAt w bv b.bytes)(hev:ErrVar w):Calls Tryz.prog 149 #[.agg (u8s p).toArray,.agg (b.arr bv)] w (Zr w (.tuple #[.agg (u8s (b.over p)).toArray,.nilIface])):=by
 by_cases hk:b.kind=1
 · exact J2t p hp b bv hw hk w hby hev
 · exact J2u p hp b bv hw hk (hf hk) w hby hev
theorem yy(a:Option Addr)(n cap:Nat)(w:World):Calls Tryz.prog 148 #[.slice a n cap] w fun e w'=>e=.returned (.func (.func 167) #[] #[.pointer (some ⟨w.heap.size,0,none⟩)])∧w'=w.alloc (.cells #[.slice a n cap] 95):=by
 go_enter Tryz.func148,Tryz.ntmps148
 go_wp2
 go_ret;exact⟨rfl,rfl⟩
theorem jX(v:Value)(hw:Region.wanted o (yielded ops a.tmps)=true)(hr:(execOp a.eval o).run P w=.ok (.value v) w)(h:wpListIn Fence.wide n P ops Q rest (a.put o.dst v) w):wpListIn Fence.wide n P ops Q (o::rest) a w:=by
 unfold wpListIn;rw [if_pos hw];refine⟨fun _ _=>trivial,?_⟩;rw [show Fence.wide.round=none from rfl,Oper.semAt_none,hr];exact h
structure KB (n₀ g:Nat) (W W':World):Prop where
 below:Below n₀ W W'
 box:W'.heap[g]? = W.heap[g]?
theorem KB.refl(n₀ g:Nat)(W:World):KB n₀ g W W:=⟨Below.refl _ _,rfl⟩
theorem KB.trans{n₀:Nat}{A B C:World}(h:KB n₀ g A B)(k:KB n₀ g B C):KB n₀ g A C:=⟨h.below.trans k.below,k.box.trans h.box⟩
theorem Jk0{n₀:Nat}(hn:n₀≤w.heap.size)(hg:g<w.heap.size)(W:World)(l:Nat)(o o':Obj)(hl:w.heap.size≤l)(h:W.heap[l]? = some o)(h1:o.isCells=false)(h2:o.isWalk=false):KB n₀ g W (W.putObj l o') :=
 ⟨belowK_b hn W l o o' hl h h1 h2,World.putObj_heap_other (by omega)⟩
theorem KB.cell{n₀:Nat}{A B:World}(h:KB n₀ g A B)(i:Nat):B.cell? ⟨g,i,none⟩=A.cell? ⟨g,i,none⟩:=by simp only [World.cell?,h.box]
structure RK (B n₀ g:Nat) (W W':World):Prop where
 keeps:KeepsFrom B W W'
 kb:KB n₀ g W W'
 lt:g<W'.heap.size
 le:n₀≤W'.heap.size
theorem RK.refl{n₀:Nat}(h:g<W.heap.size)(k:n₀≤W.heap.size):RK B n₀ g W W:=⟨KeepsFrom.refl _ _,KB.refl _ _ _,h,k⟩
theorem RK.below{n₀:Nat}{A A':World}(h:RK B n₀ g W A)(hb:Below A.heap.size A A'):RK B n₀ g W A' :=
 ⟨h.keeps.trans (YI hb),h.kb.trans ⟨hb.mono h.le,hb.block g h.lt⟩,Nat.lt_of_lt_of_le h.lt hb.size,Nat.le_trans h.le hb.size⟩
theorem RK.only{n₀ t:Nat}{A A':World}{l:List Value}(h:RK B n₀ g W A)(ho:Only (fun k=>k=t) A A')(ht:Blk A t l)(hne:g≠t)(hn:n₀≤t):RK B n₀ g W A' :=
 ⟨h.keeps.trans (qX ho ht),h.kb.trans ⟨ho.below h.le (fun k hk=>by rw [hk];exact hn),ho.block g h.lt hne⟩,Nat.lt_of_lt_of_le h.lt ho.size,Nat.le_trans h.le ho.size⟩
def jc(l:List (Bk×Value))(i:Fin l.length):Array Value:=#[.int .i64 (i.1:Int),.agg ((l.get i).1.arr (l.get i).2)]
theorem Jbe{α:Type}(l:List α)(h:k<l.length):l.reverse.take (k+1)=l.reverse.take k++[l[l.length-1-k]]:=by
 rw [List.take_add_one,List.getElem?_reverse (by omega),List.getElem?_eq_getElem (by omega)];rfl
theorem yz(n lr Bs n₀ g o cap:Nat)(l:List (Bk×Value))(m:Nat)(hm:l.length=m)(hm2:m≤1000)(hg:g<n₀)(J Jx:List (Fin l.length)→World→Prop)(hY:∀pre x W,J pre W→pre.length<l.length→YieldAt Fence.wide (n-1) Tryz.prog lr (jc l x) W fun e W' =>
  (e=.returned (.bool true)∧J (pre++[x]) W'∧KB n₀ Bs W W')∨(e=.returned (.bool false)∧Jx (pre++[x]) W'))(W:World)(hBs:W.cell? ⟨Bs,0,none⟩=some (.slice (some ⟨g,o,none⟩) m cap))(hc:∀i x,l[i]? = some x→x.1.Wf∧At W g (o+i*45) (x.1.arr x.2))(h0:J [] W) :
 CallsIn Fence.wide n Tryz.prog 167 #[.func (.yield lr) #[] #[],.pointer (some ⟨Bs,0,none⟩)] W fun e W'=>(∃v,e=.returned v) ∧
  ((∃ys,ys.map (fun i=>l.get i)=l.reverse∧J ys W')∨(∃pre,True∧Jx pre W')):=by
 refine callsIn_of_wp Tryz.func167 rfl trivial ?_ rfl;simp only [Tryz.ntmps167,List.size_toArray,List.length_cons,List.length_nil,Nat.reduceAdd,Nat.reduceSub,Array.replicate_succ,Array.replicate_zero,List.push_toArray,List.append_toArray,List.nil_append,List.cons_append];have HY:=Zh hY;have HC:=Zh hc;have HJ:=Zh h0;have HM:=Zh hm;clear hY hc h0 hm;have gw:IntKind.i64.wrap ((m:Int)-1)=(m:Int)-1:=by rw [IntKind.wrap_i64];omega
 gi_wp2
 gi_loopw [3] (fun i wr=>∃(j:Nat) (pre:List (Fin l.length)),j≤m∧i=.int .i64 ((j:Int)-1)∧pre.length=m-j∧pre.map (fun i=>l.get i)=l.reverse.take (m-j)∧J pre wr∧KB n₀ Bs W wr)
  (fun i _=>(intOf i+1).toNat)
 case atStart=>exact⟨m,[],Nat.le_refl _,rfl,by simp,by simp,HJ.out,KB.refl _ _ _⟩
 case round =>
  obtain⟨j,pre,hj,rfl,hpl,hpre,hJs,hkb⟩:=hrel;have hBs':=(hkb.cell 0).trans hBs;rcases Nat.eq_zero_or_pos j with rfl|hpos
  · gi_wp2
    go_end0
    exact⟨⟨_,rfl⟩,.inl ⟨pre,by rw [hpre,Nat.sub_zero,List.take_of_length_le (by rw [List.length_reverse,HM.out];exact Nat.le_refl _)],hJs⟩⟩
  · obtain⟨i,rfl⟩:∃i,j=i+1:=⟨j-1,by omega⟩
    have hil:i<l.length:=by have:=HM.out;omega
    obtain⟨fn,tmps,assign,body,hy,hR⟩:=HY.out pre ⟨i,hil⟩ wr hJs (by have:=HM.out;omega);obtain⟨h1,h2⟩:=HC.out i _ (List.getElem?_eq_getElem hil);have h3:=h2.below hkb.below hg;have h4:=Bk.arr_size h1 l[i].2;rw [show jc l ⟨i,hil⟩=#[.int .i64 (i:Int),.agg (l[i].1.arr l[i].2)] from rfl] at hy;generalize l[i].1.arr l[i].2=A at hy h3 h4;rw [show (((i+1:Nat):Int)-1)=(i:Int) by omega];have HA:=Zh h3;have HS:=Zh h4;have HK:=Zh hkb;have HP:=Zh hpre;clear h1 h2 h3 h4 hkb hpre HC;have h5:i<m:=hj;refine wpIn_seq ?_;refine wpIn_seq ?_;refine wpIn_region_lit ?_;refine jX (.int .i64 i) rfl (by go_simp) ?_;refine nm ?_;refine jX (.bool true) rfl (by go_simp) ?_;refine nm ?_;refine wpListIn_nil ?_;refine wpIn_cond_true rfl ?_;refine wpIn_skip ?_;refine wpIn_seq ?_;refine wpIn_block ?_;refine wpIn_seq ?_;refine wpIn_region_lit ?_;refine jX (.func (.yield lr) #[] #[]) rfl (by go_simp) ?_;refine nm ?_;refine jX (.int .i64 i) rfl (by go_simp) ?_;refine nm ?_;refine jX (.slice (some ⟨g,o,none⟩) m cap) rfl (by go_simp) ?_;refine nm ?_;refine jX (.int .i64 i) rfl (by go_simp) ?_;refine nm ?_;refine jX (.pointer (some ⟨g,o+i*45,none⟩)) rfl (by go_simp) ?_;refine nm ?_;refine jX (.agg A) rfl (exec_load_at _ _ _ 82 _ rfl g (o+i*45) rfl A _ Tryz.underlying82 rfl (by rw [HS.out];exact Kc) HA.out) ?_;refine nm ?_;have gw2:IntKind.i64.wrap ((i:Int)-1)=(i:Int)-1:=by rw [IntKind.wrap_i64];omega
    gi_wp2
    refine⟨(fun h0=>by cases h0),hR.mono ?_⟩;rintro e W3 (⟨rfl,hJ3,hk3⟩|⟨rfl,hJx3⟩)
    · gi_wp2
      go_roundw
      case rel =>
       refine⟨i,pre++[⟨i,hil⟩],by omega,by first|rfl|exact congrArg _ gw2,by simp;omega,?_,hJ3,HK.trans hk3⟩;have hm:=HM.out;rw [show m-i=(m-(i+1))+1 by omega,Jbe l (by omega),List.map_append,HP.out];congr 1;simp only [List.map_cons,List.map_nil,List.get_eq_getElem,List.cons.injEq,and_true];congr 1;omega
      case measure=>simp [intOf]
    · gi_wp2
      refine bodyPost_ret (results_none rfl _ _ _) rfl ?_;exact⟨⟨_,rfl⟩,.inr ⟨_,trivial,hJx3⟩⟩
theorem yA(n lr Bs cap:Nat)(a:Option Addr)(J:World→Prop)(W:World)(hBs:W.cell? ⟨Bs,0,none⟩=some (.slice a 0 cap))(h0:J W) :
 CallsIn Fence.wide n Tryz.prog 167 #[.func (.yield lr) #[] #[],.pointer (some ⟨Bs,0,none⟩)] W fun e W'=>(∃v,e=.returned v)∧J W':=by
 refine callsIn_of_wp Tryz.func167 rfl trivial ?_ rfl;simp only [Tryz.ntmps167,List.size_toArray,List.length_cons,List.length_nil,Nat.reduceAdd,Nat.reduceSub,Array.replicate_succ,Array.replicate_zero,List.push_toArray,List.append_toArray,List.nil_append,List.cons_append];have HJ:=Zh h0;clear h0
 gi_wp2
 gi_loopw [3] (fun i wr=>i=.int .i64 (-1)∧J wr) (fun _ _=>0)
 case atStart=>exact⟨by first|rfl|simp [IntKind.wrap_i64],HJ.out⟩
 case round =>
  obtain⟨rfl,hJs⟩:=hrel
  gi_wp2
  go_end0
  exact⟨⟨_,rfl⟩,hJs⟩
theorem qx(n Bs:Nat)(sv:Value)(l:List (Bk×Value))(hl:l.length≤1000)(w₀ w:World)(hb:Below w₀.heap.size w₀ w)(hBs:Bs<w.heap.size)(hc:w.cell? ⟨Bs,0,none⟩=some sv)(h:BlksAt w₀ sv l) :
 SeqStopsK Fence.wide n Tryz.prog 167 #[.pointer (some ⟨Bs,0,none⟩)] (jc l) (KB w₀.heap.size Bs) (fun xs=>xs.map (fun i=>l.get i)=l.reverse) (fun _=>True) l.length w:=fun lr J Jx W hW _ _ hY h0=>by
 have hc':=(hW.cell (p:=⟨Bs,0,none⟩) hBs).trans hc;rcases Nat.eq_zero_or_pos l.length with hz|hpos
 · obtain⟨a,cap,rfl,-⟩:=h;rw [hz] at hc';refine (yA n lr Bs cap a (J []) W hc' h0).mono fun e W' ⟨he,hj⟩=>⟨he,.inl ⟨[],?_,hj⟩⟩
   have:l=[]:=List.eq_nil_of_length_eq_zero hz;subst this;rfl
 · obtain⟨g,o,cap,rfl,hg,hcs⟩:=h.has hpos;exact yz n lr Bs w₀.heap.size g o cap l l.length rfl hl hg J Jx hY W hc' (fun i x hx=>⟨(hcs i x hx).1,((hcs i x hx).2.2.below hb hg).below (hW.mono hb.size) hg⟩) h0
theorem yB:(Tryz.prog.info? 121).bind (·.zero)=some .nilIface:=by kernel_rfl
theorem J2v:(Tryz.prog.info? 121).map (·.size)=some 1:=by kernel_rfl
theorem qY(w:World)(g:Nat)(ty:TypeId)(u v:Value)(hg:Blk w g [u])(hi:(P.info? ty).map (·.size)=some 1)(h1:v.oneCell'=true)(hv:v.cells=#[v]) :
 (storeVar ty ⟨g,0,none⟩ v).run P w=.ok () (w.setRow g #[v]):=by
 obtain⟨t,ht⟩:=hg;have:=run_storeCells_at P g 0 t [v] 0 #[u] w ht (by simp) (fun x hx=>by simp at hx;subst hx;exact h1);cases hq:P.info? ty with
 | none=>simp [hq] at hi
 | some i =>
  have hs:i.size=1:=by simpa [hq] using hi
  simp only [Nat.add_zero,List.length_singleton] at this;simp only [storeVar,sizeOf,typeInfo,Sem.run_bind,hv] at this ⊢;simp [this,hq,hs]
section
variable {ops:Array Oper} {rest:List Oper} {dst:Option Tmp} {x:Operand} {t2:TypeId} {pos:String} {after:Array Edge} {guard:Option (Nat×Bool)} {a:Act} {w:World} {Q:Exit→Act→World→Prop}
theorem jE(hz:(Tryz.prog.info? t).bind (·.zero)=some v)(hv:v.cells=#[v])(hw:Region.wanted ⟨dst,.alloc t,t2,pos,after,guard⟩ (yielded ops a.tmps)=true)(h:∀wX,Blk wX w.heap.size [v]→Below w.heap.size w wX→w.heap.size<wX.heap.size→wpList Tryz.prog ops Q rest (a.put dst (.pointer (some ⟨w.heap.size,0,none⟩))) wX):wpList Tryz.prog ops Q (⟨dst,.alloc t,t2,pos,after,guard⟩::rest) a w:=by
 refine Jo (.pointer (some ⟨w.heap.size,0,none⟩)) (w.alloc (.cells #[v] t)) hw ?_ (h _ (Blk.new w #[v] t) (Zq.alloc Zy _) (by simp));cases hq:Tryz.prog.info? t with
 | none=>simp [hq] at hz
 | some i =>
  have hz':i.zero=some v:=by simpa [hq] using hz
  unfold execOp;simp [Instr.alloc,zeroValue,typeInfo,hq,hz',newVar,newRow,hv]
theorem jF{u:Value}(hb:Blk w g [u])(hi:(Tryz.prog.info? t).map (·.size)=some 1)(h1:v.oneCell'=true)(hv:v.cells=#[v])(hx:a.eval x=.pointer (some ⟨g,0,none⟩))(hy:a.eval y=v)(hw:Region.wanted ⟨dst,.store t x y,t2,pos,after,guard⟩ (yielded ops a.tmps)=true)(h:∀wX,Blk wX g [v]→Only (fun k=>k=g) w wX→wpList Tryz.prog ops Q rest (a.put dst undef) wX):wpList Tryz.prog ops Q (⟨dst,.store t x y,t2,pos,after,guard⟩::rest) a w:=by
 refine Xy (w.setRow g #[v]) hw ?_ (h _ (hb.row _) ((Only.refl (fun k=>k=g) w).setRow (.inl rfl) _));unfold execOp;simp only [hx,hy,Instr.storeAt,Instr.sureAddr,Sem.run_bind,Sem.run_pure,Result.andThen_ok,qY w g t u v hb hi h1 hv]
end
theorem jY{fn:Func}{p q:Tmp}(h:fn.results=#[.cell p 43,.cell q 121])(tmps:Array Value)(w:World)(g g2:Nat)(l:List Int)(v:Value)(hp:tmps.getD p undef=.pointer (some ⟨g,0,none⟩))(hq:tmps.getD q undef=.pointer (some ⟨g2,0,none⟩))(hb:Blk w g (u8s l))(hl:l.length=32)(hb2:Blk w g2 [v]):(results fn tmps).run Tryz.prog w=.ok (.tuple #[.agg (u8s l).toArray,v]) w:=by
 have hp':tmps[p]?.getD undef=.pointer (some ⟨g,0,none⟩):=by simpa using hp
 have hq':tmps[q]?.getD undef=.pointer (some ⟨g2,0,none⟩):=by simpa using hq
 have h1:=Kb (P:=Tryz.prog) w g 0 43 (u8s l).toArray _ Tryz.underlying43 rfl (by rw [J2,hl];exact Kl) (Blk.all hb rfl);have h2:(loadVar 121 ⟨g2,0,none⟩).run Tryz.prog w=.ok v w:=by
  have hagg:(isAgg 121).run Tryz.prog w=.ok false w:=by
   unfold isAgg;rw [Sem.run_bind,run_underlying Tryz.underlying121 w];rfl
  simp [loadVar,Sem.run_bind,hagg,hb2.cell (i:=0) (v:=v) rfl]
 simp [results,h,hp',hq',asAddr,h1,h2]
theorem J2w(l:List (Bk×Value))(hno:JF (l.map (·.1))=false)(sv:Value)(w:World)(h:BlksAt w sv l):Calls Tryz.prog 147 #[sv] w fun e w'=>∃T d t ts,e=.returned (.iface T d)∧Chain w' 11 (t::ts) (.iface T d)∧Below w.heap.size w w' :=
 (jW l l.length rfl sv w h).mono fun e w' ⟨h1,h2⟩=>by
  rcases h1 with ⟨h1,-⟩|⟨-,T,d,t,ts,h3,h4⟩
  · rw [hno] at h1;cases h1
  · exact⟨T,d,t,ts,h3,h4,h2⟩
theorem J07(l:List (Bk×Value))(hok:JF (l.map (·.1))=true)(sv:Value)(w:World)(h:BlksAt w sv l):Calls Tryz.prog 147 #[sv] w fun e w'=>e=.returned .nilIface∧Below w.heap.size w w' :=
 (jW l l.length rfl sv w h).mono fun e w' ⟨h1,h2⟩=>by
  rcases h1 with ⟨-,h1⟩|⟨h1,-⟩
  · exact⟨h1,h2⟩
  · rw [hok] at h1;cases h1
def pp(l:List (Bk×Value))(pre:List (Fin l.length)):List Int:=pre.foldl (fun p i=>(l.get i).1.over p) (zeros 32)
theorem Jez(l:List (Bk×Value))(pre:List (Fin l.length))(x:Fin l.length):pp l (pre++[x])=(l.get x).1.over (pp l pre):=by simp [pp]
theorem J08{l:List (Bk×Value)}(h:JF (l.map (·.1))=true)(x:Fin l.length):∃id last,okAt id last (l.get x).1=true:=by
 have hx:(l.map (·.1))[x.1]? = some (l.get x).1:=by rw [List.getElem?_map,List.getElem?_eq_getElem x.2];rfl
 obtain⟨y,hy⟩:∃y,(l.map (·.1))[0]? = some y:=⟨_,List.getElem?_eq_getElem (by rw [List.length_map];exact Nat.lt_of_le_of_lt (Nat.zero_le _) x.2)⟩
 exact⟨_,_,((QW _).1 h).2 y hy x.1 _ hx⟩
theorem yC{l:List (Bk×Value)}(h:JF (l.map (·.1))=true)(hw:∀b∈l.map (·.1),b.Wf)(pre:List (Fin l.length)):Pg (pp l pre):=by
 suffices ∀p,Pg p→Pg (pre.foldl (fun p i=>(l.get i).1.over p) p) from this _ Pg.zeros
 induction pre with
 | nil=>exact fun p hp=>hp
 | cons x r ih =>
  intro p hp;obtain⟨id,last,hx⟩:=J08 h x;exact ih _ (jD hx (hw _ (List.mem_map.2 ⟨l.get x,List.get_mem _ _,rfl⟩)) hp)
theorem Jhy{l:List (Bk×Value)}{xs:List (Fin l.length)}(h:xs.map (fun i=>l.get i)=l.reverse):pp l xs=Q5 (l.map (·.1)):=by
 have:pp l xs=(xs.map (fun i=>l.get i)).foldl (fun p y=>y.1.over p) (zeros 32):=by
  rw [pp,List.foldl_map]
 rw [this,h,List.foldl_reverse,Q5,List.foldr_map]
theorem J4n{l:List (Bk×Value)}(h:BlksAt w sv l)(x:Fin l.length):(l.get x).1.Wf∧BytesAt w (l.get x).2 (l.get x).1.bytes:=by
 obtain⟨a,cap,e,hc⟩:=h;obtain⟨h1,h2,-⟩:=hc x.1 (l.get x) (List.getElem?_eq_getElem x.2);exact⟨h1,h2⟩
theorem J6y(l:List (Bk×Value))(hno:JF (l.map (·.1))=false)(sv:Value)(w:World)(h:BlksAt w sv l):Calls Tryz.prog 117 #[sv] w fun e w'=>∃T d t ts,e=.returned (.tuple #[.agg (u8s (zeros 32)).toArray,.iface T d])∧Chain w' 11 (t::ts) (.iface T d)∧Below w.heap.size w w':=by
 have HZ32:=Zh (J1 32);have HBL:Hid (Below w.heap.size w w):=Zh Zq;have HBS:=Zh h;have HNO:=Zh hno;obtain⟨sa,sc,he,-⟩:=h;have HE:=Zh he;clear hno he;refine (callsIn_wide (n:=3)).1 ?_;refine callsIn_of_wp_marks Tryz.func117 rfl trivial ?_ rfl;simp only [Tryz.ntmps117,List.size_toArray,List.length_cons,List.length_nil,Nat.reduceAdd,Nat.reduceSub,Array.replicate_succ,Array.replicate_zero,List.push_toArray,List.append_toArray,List.nil_append,List.cons_append];refine wpIn_wide.2 ?_;go_upto_region 0 with fail;refine Zl ?_;refine J4 QB rfl ?_;intro w1 hA hb hl;refine nm ?_;clear hl;have HG2:Hid (w.heap.size≤w.heap.size):=Zh HBL.size;have F3:=Zh (HBL.trans (hb.mono HBL.size));clear HBL;have F4:Hid (Blk w1 w.heap.size (u8s (zeros 32))):=Zh hA;clear hA hb;refine jE (v:=.nilIface) yB rfl rfl ?_;intro w5 hA hb hl;refine nm ?_;clear hl;have HN6:=Zh (Nat.ne_of_lt F4.lt);have HG7:Hid (w.heap.size≤w1.heap.size):=Zh F3.size;have F8:=Zh (F3.trans (hb.mono F3.size));have F9:=Zh (F4.below hb F4.lt);clear F3 F4;have F10:Hid (Blk w5 w1.heap.size [.nilIface]):=Zh hA;clear hA hb;generalize w1.heap.size=g11 at *;clear w1;go_upto_region 1 with fail;refine Zl ?_;refine tk (sv) ?_ (hr:=by have hq:=HE.out;rw [hq];go_simp);refine J0 rfl fun K hK=>?_;go_simp;refine (J2w l HNO.out sv _ (HBS.below F8.out)).mono ?_;rintro e w12 ⟨Tw12,dw12,tw12,tsw12,rfl,hc,hb⟩;have F13:=Zh (F8.trans (hb.mono F8.size));have F14:=Zh (F9.below hb F9.lt);have F15:=Zh (F10.below hb F10.lt);clear F8 F9 F10;have F16:=Zh hc;clear hb hc;refine hK _ _ (nm ?_);clear hK K;refine tk (.iface Tw12 dw12) ?_;go_upto_region 2 with fail;refine Zl ?_;refine tk (.iface Tw12 dw12) ?_;refine tk (.bool true) ?_;go_upto_region 3 with fail;refine Zl ?_;refine Ji (QS _) rfl ?_;refine nm ?_;refine tk (.iface Tw12 dw12) ?_;refine J0 rfl fun K hK=>?_;go_simp;refine (J6x _ _ _ _ _ _ F16.out).mono ?_;rintro e w17 ⟨Tw17,dw17,tw17,tsw17,rfl,hc,hb⟩;have F18:=Zh (F13.trans (hb.mono F13.size));have F19:=Zh (F14.below hb F14.lt);have F20:=Zh (F15.below hb F15.lt);have F21:=Zh (F16.below Zy hb);clear F13 F14 F15 F16;have F22:=Zh hc;clear hb hc;refine hK _ _ (nm ?_);clear hK K;refine J3 (cs:=(u8s (zeros 32)).toArray) F19.out (by simp only [J2,List.size_toArray,List.length_append,List.length_singleton,List.length_map,HZ32.out]) (by rw [J2,HZ32.out];exact Kl) (Jj _) rfl rfl rfl ?_;intro w23 hD hO hlD;refine nm ?_;clear hlD;have F24:=Zh (F18.trans (hO.below F18.size (fun k hk=>by rw [hk];exact HG2.out)));have F25:=Zh (F20.only hO (HN6.symm));have F26:=Zh (F21.keep hO (Blk.noStr F19.out (u8s_noStr _)));have F27:=Zh (F22.keep hO (Blk.noStr F19.out (u8s_noStr _)));clear F18 F20 F21 F22 F19;have F4':Hid (Blk w23 w.heap.size (u8s (zeros 32))):=Zh hD;clear hD hO;refine jF (v:=.iface Tw17 dw17) F25.out J2v rfl rfl rfl rfl rfl ?_;intro w28 hD hO;refine nm ?_;have F29:=Zh (F24.trans (hO.below F24.size (fun k hk=>by rw [hk];exact HG7.out)));have F30:=Zh (F26.keep hO (Blk.noStr F25.out (by simp)));have F31:=Zh (F27.keep hO (Blk.noStr F25.out (by simp)));have F32:=Zh (F4'.out.only hO (HN6.out));clear F24 F26 F27 F4' F25;have F10':Hid (Blk w28 g11 [.iface Tw17 dw17]):=Zh hD;clear hD hO;go_wp2_with fail
 exact⟨_,jY rfl _ _ w.heap.size g11 _ _ rfl rfl F32.out HZ32.out F10'.out,_,_,_,_,rfl,F31.out,F29.out⟩
theorem J2x(l:List (Bk×Value))(hok:JF (l.map (·.1))=true)(sv:Value)(w:World)(h:BlksAt w sv l)(hev:ErrVar w):Calls Tryz.prog 117 #[sv] w fun e w'=>e=.returned (.tuple #[.agg (u8s (Q5 (l.map (·.1)))).toArray,.nilIface])∧Below w.heap.size w w':=by
 have HZ32:=Zh (J1 32);have HBL:Hid (Below w.heap.size w w):=Zh Zq;have HBS:=Zh h;have HOK:=Zh hok;have HEV:=Zh hev;obtain⟨sa,sc,he,-⟩:=h;have HE:=Zh he;clear hok hev he;refine (callsIn_wide (n:=3)).1 ?_;refine callsIn_of_wp_marks Tryz.func117 rfl trivial ?_ rfl;simp only [Tryz.ntmps117,List.size_toArray,List.length_cons,List.length_nil,Nat.reduceAdd,Nat.reduceSub,Array.replicate_succ,Array.replicate_zero,List.push_toArray,List.append_toArray,List.nil_append,List.cons_append];refine wpIn_wide.2 ?_;go_upto_region 0 with fail;refine Zl ?_;refine J4 QB rfl ?_;intro w1 hA hb hl;refine nm ?_;clear hl;have HG2:Hid (w.heap.size≤w.heap.size):=Zh HBL.size;have F3:=Zh (HBL.trans (hb.mono HBL.size));clear HBL;have F4:Hid (Blk w1 w.heap.size (u8s (zeros 32))):=Zh hA;clear hA hb;refine jE (v:=.nilIface) yB rfl rfl ?_;intro w5 hA hb hl;refine nm ?_;clear hl;have HN6:=Zh (Nat.ne_of_lt F4.lt);have HG7:Hid (w.heap.size≤w1.heap.size):=Zh F3.size;have F8:=Zh (F3.trans (hb.mono F3.size));have F9:=Zh (F4.below hb F4.lt);clear F3 F4;have F10:Hid (Blk w5 w1.heap.size [.nilIface]):=Zh hA;clear hA hb;generalize w1.heap.size=g11 at *;clear w1;go_upto_region 1 with fail;refine Zl ?_;refine tk (sv) ?_ (hr:=by have hq:=HE.out;rw [hq];go_simp);refine J0 rfl fun K hK=>?_;go_simp;refine (J07 l HOK.out sv _ (HBS.below F8.out)).mono ?_;rintro e w12 ⟨rfl,hb⟩;have F13:=Zh (F8.trans (hb.mono F8.size));have F14:=Zh (F9.below hb F9.lt);have F15:=Zh (F10.below hb F10.lt);clear F8 F9 F10;clear hb;refine hK _ _ (nm ?_);clear hK K;refine tk (.nilIface) ?_;go_upto_region 2 with fail;refine Zl ?_;refine tk (.nilIface) ?_;refine tk (.bool false) ?_;go_upto_region 4 with fail;refine Zl ?_;refine J4 QB rfl ?_;intro w16 hA hb hl;refine nm ?_;clear hl;have HN17:=Zh (Nat.ne_of_lt F14.lt);have HN18:=Zh (Nat.ne_of_lt F15.lt);have HG19:Hid (w.heap.size≤w12.heap.size):=Zh F13.size;have F20:=Zh (F13.trans (hb.mono F13.size));have F21:=Zh (F14.below hb F14.lt);have F22:=Zh (F15.below hb F15.lt);clear F13 F14 F15;have F23:Hid (Blk w16 w12.heap.size (u8s (zeros 32))):=Zh hA;clear hA hb;generalize w12.heap.size=g24 at *;clear w12;go_upto_region 5 with fail;refine Zl ?_;refine jE (v:=.nilIface) yB rfl rfl ?_;intro w25 hA hb hl;refine nm ?_;clear hl;have HN26:=Zh (Nat.ne_of_lt F21.lt);have HN27:=Zh (Nat.ne_of_lt F22.lt);have HN28:=Zh (Nat.ne_of_lt F23.lt);have HG29:Hid (w.heap.size≤w16.heap.size):=Zh F20.size;have F30:=Zh (F20.trans (hb.mono F20.size));have F31:=Zh (F21.below hb F21.lt);have F32:=Zh (F22.below hb F22.lt);have F33:=Zh (F23.below hb F23.lt);clear F20 F21 F22 F23;have F34:Hid (Blk w25 w16.heap.size [.nilIface]):=Zh hA;clear hA hb;generalize w16.heap.size=g35 at *;clear w16;go_upto_region 6 with fail;refine Zl ?_;refine tk (sv) ?_ (hr:=by have hq:=HE.out;rw [hq];go_simp);have hbk:=yy sa l.length sc w25;rw [←HE.out] at hbk;refine J0 rfl fun K hK=>?_;go_simp;refine hbk.mono ?_;clear hbk;rintro e w36 ⟨rfl,hw⟩;have hA:Blk w36 w25.heap.size [sv]:=by
  rw [hw,HE.out];exact Blk.new _ _ _
 have hb:Below w25.heap.size w25 w36:=by
  rw [hw];exact Zq.alloc Zy _
 clear hw;have HN37:=Zh (Nat.ne_of_lt F31.lt);have HN38:=Zh (Nat.ne_of_lt F32.lt);have HN39:=Zh (Nat.ne_of_lt F33.lt);have HN40:=Zh (Nat.ne_of_lt F34.lt);have HG41:Hid (w.heap.size≤w25.heap.size):=Zh F30.size;have F42:=Zh (F30.trans (hb.mono F30.size));have F43:=Zh (F31.below hb F31.lt);have F44:=Zh (F32.below hb F32.lt);have F45:=Zh (F33.below hb F33.lt);have F46:=Zh (F34.below hb F34.lt);clear F30 F31 F32 F33 F34;have F47:Hid (Blk w36 w25.heap.size [sv]):=Zh hA;clear hA hb;refine hK _ _ (nm ?_);clear hK K;generalize w25.heap.size=g48 at *;clear w25;refine Zn ?_
 rename_i K1 hK1 K2 hK2
 refine hK2 _ _ ?_;refine wp_block ?_;refine (wpIn_wide (n:=3)).1 ?_;have hl3:l.length≤1000:=by
  have:=((QW _).1 HOK.out).1;rw [List.length_map] at this;omega
 refine wpIn_rangeFunc_ownH (F:=Fence.wide) (n:=3) rfl (by omega) (gf:=167) (lb:=#[.pointer (some ⟨g48,0,none⟩)]) rfl trivial (enters_of Tryz.func167 (by kernel_rfl) rfl)
  (qx _ g48 sv l hl3 w w36 F42.out F47.lt (F47.cell (i:=0) (v:=sv) rfl) HBS.out) (fun h k=>h.trans k) (Jk0 F42.size F47.lt) Zq (fun _=>rfl)
  (fun pre W=>(Blk W g24 (u8s (pp l pre))∧Blk W g35 [.nilIface]∧Blk W w.heap.size (u8s (zeros 32))∧Blk W g11 [.nilIface])∧Below w.heap.size w W∧w36.heap.size≤W.heap.size)
  (fun _ _ _=>False)
  (OwnFrom.and (Own.from (fun s A B row hs hg hr=>⟨hs.1.kept hg hr,hs.2.1.kept hg hr,hs.2.2.1.kept hg hr,hs.2.2.2.kept hg hr⟩) _) (OwnFrom.and (ownFrom_below Zy F42.size) (fun s A B row hs hg hr=>Nat.le_trans hs hg.size)))
  (fun _ _ _ _ _ hs _ _=>hs)
  ⟨⟨F45.out,F46.out,F43.out,F44.out⟩,F42.out,Nat.le_refl _⟩
  (fun x a' W=>∃Bx,w36.heap.size≤Bx∧Blk W Bx ((l.get x).1.cells (l.get x).2)∧a'={ tmps:=#[sv,undef,.pointer (some ⟨w.heap.size,0,none⟩),.pointer (some ⟨g11,0,none⟩),.nilIface,.pointer (some ⟨g24,0,none⟩),.pointer (some ⟨g35,0,none⟩),undef,.pointer (some ⟨Bx,0,none⟩),sv,.nilIface,.nilIface,.bool false,undef,undef,undef,sv,.func (.func 167) #[] #[.pointer (some ⟨g48,0,none⟩)],.int .i64 (x.1:Int),.agg ((l.get x).1.arr (l.get x).2),undef,undef,undef,undef,undef,undef,undef,undef,undef,undef,undef,undef],defers:=[] })
  (fun x a' _ X Y row hs hg hr=>by obtain⟨Bx,h1,h2,h3⟩:=hs;exact⟨Bx,h1,h2.kept hg (fun r e=>(hr r e).2),h3⟩)
  ?assign ?body ?done ?stop
 case stop=>exact fun D c pre W _ _ h _=>h.elim
 case assign =>
  rintro lr pre x W K ⟨⟨i1,i2,i3,i4⟩,hB,hZ⟩ hK;have HK:=Zh hK;obtain⟨x1,x2⟩:=J4n HBS.out x;have HW:=Zh x1;have HLN:=Zh x2.len;have HNW:=Zh Bk.none_wf;have I1:=Zh i1;have I2:=Zh i2;have I3:=Zh i3;have I4:=Zh i4;have HB:=Zh hB;clear x1 x2 i1 i2 i3 i4 hB hK;refine YH (fun ⟨_,_,h⟩=>h) (YJ rfl) ?_;rw [show ((#[18,19]:Array Tmp).zip (jc l x)).foldl (fun t (p,v)=>t.setIfInBounds p v) #[sv,undef,.pointer (some ⟨w.heap.size,0,none⟩),.pointer (some ⟨g11,0,none⟩),.nilIface,.pointer (some ⟨g24,0,none⟩),.pointer (some ⟨g35,0,none⟩),undef,undef,sv,.nilIface,.nilIface,.bool false,undef,undef,undef,sv,.func (.func 167) #[] #[.pointer (some ⟨g48,0,none⟩)],undef,undef,undef,undef,undef,undef,undef,undef,undef,undef,undef,undef,undef,undef]=#[sv,undef,.pointer (some ⟨w.heap.size,0,none⟩),.pointer (some ⟨g11,0,none⟩),.nilIface,.pointer (some ⟨g24,0,none⟩),.pointer (some ⟨g35,0,none⟩),undef,undef,sv,.nilIface,.nilIface,.bool false,undef,undef,undef,sv,.func (.func 167) #[] #[.pointer (some ⟨g48,0,none⟩)],.int .i64 (x.1:Int),.agg ((l.get x).1.arr (l.get x).2),undef,undef,undef,undef,undef,undef,undef,undef,undef,undef,undef,undef] from by simp [jc]];refine J4 zero82b rfl ?_;intro wa hA hb hl;refine nm ?_;clear hl;refine J3 (cs:=(l.get x).1.arr (l.get x).2) hA (same82 HNW.out HW.out _ _) (info82s HW.out _) (Bk.arr_one (Qp HLN.out)) rfl rfl rfl ?_;intro wb hD hO hlD;refine nm ?_;clear hlD hA;have hbb:Below W.heap.size W wb:=hb.trans (hO.below hb.size fun k hk=>Nat.le_of_eq hk.symm);clear hb hO;refine Zn ?_;have h0:=I4.lt;refine HK.out _ _ (YI hbb) ⟨hbb.mono HB.size,?_⟩ ⟨⟨I1.below hbb I1.lt,I2.below hbb I2.lt,I3.below hbb I3.lt,I4.below hbb I4.lt⟩,HB.trans (hbb.mono HB.size),Nat.le_trans hZ hbb.size⟩ ⟨W.heap.size,hZ,hD,rfl⟩;exact hbb.block _ (Nat.lt_of_lt_of_le F47.lt hZ)
 case body =>
  rintro lr pre x a' W _ _ ⟨⟨i1,i2,i3,i4⟩,hB,hZ⟩ ⟨Bx,hBx,bX,rfl⟩ _;obtain⟨x1,x2⟩:=J4n HBS.out x;obtain⟨id,lst,hok⟩:=J08 HOK.out x;have HPP:=Zh (yC HOK.out HBS.wf pre).length;have HOV:=Zh (jD hok x1 (yC HOK.out HBS.wf pre)).length;have HFT:Hid (¬(l.get x).1.kind=1→Fits (l.get x).1.off (l.get x).1.bytes):=Zh fun k=>xC hok k;rw [show ownPostG w36.heap.size (KB w.heap.size g48)=ownPostG w36.heap.size (KB w.heap.size g48) from rfl];have HSN:=Zh (Jez l pre x);obtain⟨b,hb⟩:∃b,(l.get x).1=b:=⟨_,rfl⟩
  obtain⟨bv,hbv⟩:∃bv,(l.get x).2=bv:=⟨_,rfl⟩
  rw [hb] at x1 x2 bX HOV HFT HSN hok;rw [hbv] at x2 bX;rw [hb,hbv];have HW:=Zh x1;have HLN:=Zh x2.len;have HBY:=Zh x2;have I1:=Zh i1;have I2:=Zh i2;have I3:=Zh i3;have I4:=Zh i4;have IX:=Zh bX;have HB:=Zh hB;have RK0:Hid (RK w36.heap.size w.heap.size g48 W W):=Zh (RK.refl (Nat.lt_of_lt_of_le F47.lt hZ) hB.size);have HX5:Hid (g24≠Bx):=Zh (by have:=F45.lt;omega);have HX6:Hid (g35≠Bx):=Zh (by have:=F46.lt;omega);have HX2:Hid (w.heap.size≠Bx):=Zh (by have:=F43.lt;omega);have HX3:Hid (g11≠Bx):=Zh (by have:=F44.lt;omega);have HGX:Hid (w.heap.size≤Bx):=Zh (Nat.le_trans F42.size hBx);generalize hpp:pp l pre=q at *;generalize hov:b.over q=q' at *;clear x1 x2 i1 i2 i3 i4 bX hB hok hb hbv;refine wpIn_block ?_;refine wpIn_seq ?_;refine YH (fun ⟨_,_,h⟩=>h) (YJ rfl) ?_;refine KX (cs:=(u8s q).toArray) (Blk.all I1.out rfl) (by rw [J2,HPP.out]) rfl rfl ?_;refine nm ?_;refine JJ (cs:=(b.arr bv)) (Blk.all IX.out rfl) (b.arr_size HW.out bv) rfl rfl ?_;refine nm ?_;have hq:=Jbd q HPP.out b bv HW.out HFT.out _ (HBY.below HB.out) (HEV.below Zy HB.out);rw [hov] at hq;refine J0 rfl fun K hK=>?_;go_simp;refine hq.mono ?_;clear hq;rintro e w49 ⟨rfl,hb⟩;have F50:=Zh (I1.below hb I1.lt);have F51:=Zh (I2.below hb I2.lt);have F52:=Zh (I3.below hb I3.lt);have F53:=Zh (I4.below hb I4.lt);have F54:=Zh (IX.below hb IX.lt);have F55:=Zh (HB.trans (hb.mono HB.size));have F56:=Zh (RK0.below hb);clear I1 I2 I3 I4 IX HB RK0;clear hb;refine hK _ _ (nm ?_);clear hK K;refine tk (.tuple #[.agg (u8s q').toArray,.nilIface]) ?_;refine tk (.agg (u8s q').toArray) ?_;refine tk (.nilIface) ?_;refine J3 (cs:=(u8s q').toArray) F50.out (by simp only [J2,List.size_toArray,List.length_append,List.length_singleton,List.length_map,HOV.out,HPP.out]) (by rw [J2,HOV.out];exact Kl) (Jj _) rfl rfl rfl ?_;intro w57 hD hO hlD;refine nm ?_;clear hlD;have F58:=Zh (F51.only hO (HN28.symm));have F59:=Zh (F52.only hO (HN17.out));have F60:=Zh (F53.only hO (HN18.out));have F61:=Zh (F54.only hO (HX5.symm));have F62:=Zh (F55.trans (hO.below F55.size (fun k hk=>by rw [hk];exact HG19.out)));have F63:=Zh (F56.only hO F50.out (HN39.symm) HG19.out);clear F51 F52 F53 F54 F55 F56 F50;have I1':Hid (Blk w57 g24 (u8s q')):=Zh hD;clear hD hO;refine jF (v:=.nilIface) F58.out J2v rfl rfl rfl rfl rfl ?_;intro w64 hD hO;refine nm ?_;have F65:=Zh (F59.only hO (HN26.out));have F66:=Zh (F60.only hO (HN27.out));have F67:=Zh (F61.only hO (HX6.symm));have F68:=Zh (F62.trans (hO.below F62.size (fun k hk=>by rw [hk];exact HG29.out)));have F69:=Zh (F63.only hO F58.out (HN40.symm) HG29.out);have F70:=Zh (I1'.out.only hO (HN28.out));clear F59 F60 F61 F62 F63 I1' F58;have I2':Hid (Blk w64 g35 [.nilIface]):=Zh hD;clear hD hO;refine Zn ?_;refine wpIn_seq ?_;refine YH (fun ⟨_,_,h⟩=>h) (YJ rfl) ?_;refine tk (.nilIface) ?_ (hr:=by have hq:=I2'.out.cell (i:=0) (v:=.nilIface) rfl;go_simp);refine tk (.bool false) ?_;refine Zn ?_;refine wpIn_cond_false rfl ?_;refine wpIn_skip ?_;exact⟨F69.keeps,F69.kb,⟨by rw [HSN.out];exact F70.out,I2'.out,F65.out,F66.out⟩,F68.out,Nat.le_trans hZ F69.keeps.size⟩
 case done =>
  rintro D xs W hD hS ⟨⟨i1,i2,i3,i4⟩,hB,hZ⟩ hK;have HPP:=Zh (yC HOK.out HBS.wf xs).length;rw [Jhy hS] at i1 HPP;obtain⟨q,hq⟩:∃q,Q5 (l.map (·.1))=q:=⟨_,rfl⟩
  rw [hq] at i1 HPP;have HQ:=Zh hq;clear hq;have I1:=Zh i1;have I2:=Zh i2;have I3:=Zh i3;have I4:=Zh i4;have HB:=Zh hB;have RK0:Hid (RK w36.heap.size w.heap.size g48 W W):=Zh (RK.refl (Nat.lt_of_lt_of_le F47.lt hZ) hB.size);clear i1 i2 i3 i4 hB;refine hK1 _ _ ?_;refine wp_seq ?_;refine Zl ?_;refine KX (cs:=(u8s q).toArray) (Blk.all I1.out rfl) (by rw [J2,HPP.out]) rfl rfl ?_;refine nm ?_;refine J3 (cs:=(u8s q).toArray) I3.out (by simp only [J2,List.size_toArray,List.length_append,List.length_singleton,List.length_map,HPP.out,HZ32.out]) (by rw [J2,HPP.out];exact Kl) (Jj _) rfl rfl rfl ?_;intro w49 hD hO hlD;refine nm ?_;clear hlD;have F50:=Zh (I1.only hO (HN17.symm));have F51:=Zh (I2.only hO (HN26.symm));have F52:=Zh (I4.only hO (HN6.symm));have F53:=Zh (HB.trans (hO.below HB.size (fun k hk=>by rw [hk];exact HG2.out)));have F54:=Zh (RK0.only hO I3.out (HN37.symm) HG2.out);clear I1 I2 I4 HB RK0 I3;have I3':Hid (Blk w49 w.heap.size (u8s q)):=Zh hD;clear hD hO;refine jF (v:=Value.nilIface) F52.out J2v rfl rfl rfl rfl rfl ?_;intro w55 hD hO;refine nm ?_;have F56:=Zh (F50.only hO (HN18.symm));have F57:=Zh (F51.only hO (HN27.symm));have F58:=Zh (F53.trans (hO.below F53.size (fun k hk=>by rw [hk];exact HG7.out)));have F59:=Zh (F54.only hO F52.out (HN38.symm) HG7.out);have F60:=Zh (I3'.out.only hO (HN6.out));clear F50 F51 F53 F54 I3' F52;have I4':Hid (Blk w55 g11 [Value.nilIface]):=Zh hD;clear hD hO;refine Zn ?_;have hK':=F59.keeps.same D _ hD hK rfl;refine wp_ret ?_;refine⟨by simp,.inl ⟨_,_,rfl,run_takeDeferred hK',?_⟩⟩;have hg:∀r,some D=some r→∃o:Obj,w55.heap[r]? = some o∧o.isCells=false:=fun r e=>by cases e;exact⟨_,hK',rfl⟩
  exact⟨_,jY rfl _ _ w.heap.size g11 _ _ rfl rfl (F60.kept (grownBy_putObj' _ D (.deferred none)) hg) HPP.out (I4'.out.kept (grownBy_putObj' _ D (.deferred none)) hg),by rw [HQ.out],F58.trans (belowK_b (w:=w36) F42.size w55 D _ _ hD hK' rfl rfl)⟩
theorem Jbf(l:List (Bk×Value))(hok:JF (l.map (·.1))=true)(sv:Value)(w:World)(h:BlksAt w sv l)(hev:ErrVar w):Calls Tryz.prog 91 #[sv] w fun e w'=>e=.returned (.tuple #[.agg (u8s (Q5 (l.map (·.1)))).toArray,.int .i64 0])∧Below w.heap.size w w':=by
 have HZ32:=Zh (J1 32);have HBL:Hid (Below w.heap.size w w):=Zh Zq;have HBS:=Zh h;have HOK:=Zh hok;obtain⟨sa,sc,he,-⟩:=h;have HE:=Zh he;clear he;have HEV:=Zh hev;have HPP:=Zh (ja hok HBS.wf).length;obtain⟨q,hq⟩:∃q,Q5 (l.map (·.1))=q:=⟨_,rfl⟩
 rw [hq] at HPP ⊢;have HQ:=Zh hq;clear hok hev hq;go_enter Tryz.func91,Tryz.ntmps91;go_upto_region 0 with fail;refine Zl ?_;refine J4 QB rfl ?_;intro w1 hA hb hl;refine nm ?_;clear hl;have HG2:Hid (w.heap.size≤w.heap.size):=Zh HBL.size;have F3:=Zh (HBL.trans (hb.mono HBL.size));clear HBL;have F4:Hid (Blk w1 w.heap.size (u8s (zeros 32))):=Zh hA;clear hA hb;refine tk (.int .i64 0) ?_;go_upto_region 1 with fail;refine Zl ?_;refine tk (sv) ?_ (hr:=by have hq:=HE.out;rw [hq];go_simp);have hq:=J2x l HOK.out sv _ (HBS.below F3.out) (HEV.below Zy F3.out);rw [HQ.out] at hq;refine J0 rfl fun K hK=>?_;go_simp;refine hq.mono ?_;clear hq;rintro e w5 ⟨rfl,hb⟩;have F6:=Zh (F3.trans (hb.mono F3.size));have F7:=Zh (F4.below hb F4.lt);clear F3 F4;clear hb;refine hK _ _ (nm ?_);clear hK K;refine tk (.tuple #[.agg (u8s q).toArray,.nilIface]) ?_;refine tk (.agg (u8s q).toArray) ?_;refine tk (.nilIface) ?_;refine J4 QB rfl ?_;intro w8 hA hb hl;refine nm ?_;clear hl;refine J3 (cs:=(u8s q).toArray) hA (by simp only [J2,List.size_toArray,List.length_append,List.length_singleton,List.length_map,HPP.out,HZ32.out]) (by rw [J2,HPP.out];exact Kl) (Jj _) rfl rfl rfl ?_;intro w9 hD hO hlD;refine nm ?_;clear hlD hA;have hbb:Below w5.heap.size w5 w9:=hb.trans (hO.below hb.size fun k hk=>Nat.le_of_eq hk.symm);clear hb hO;have HN10:=Zh (Nat.ne_of_lt F7.lt);have HG11:Hid (w.heap.size≤w5.heap.size):=Zh F6.size;have F12:=Zh (F6.trans (hbb.mono F6.size));have F13:=Zh (F7.below hbb F7.lt);clear F6 F7;have F14:Hid (Blk w9 w5.heap.size (u8s q)):=Zh hD;clear hD hbb w8;generalize w5.heap.size=g15 at *;clear w5;refine tk (.nilIface) ?_;go_upto_region 2 with fail;refine Zl ?_;refine tk (.nilIface) ?_;refine J0 rfl fun K hK=>?_;go_simp;refine (YD 11 false rfl _).mono ?_;rintro e w16 ⟨rfl,hb⟩;have F17:=Zh (F12.trans (hb.mono F12.size));have F18:=Zh (F13.below hb F13.lt);have F19:=Zh (F14.below hb F14.lt);clear F12 F13 F14;clear hb;refine hK _ _ (nm ?_);clear hK K;go_upto_region 4 with fail;refine Zl ?_;refine KX (cs:=(u8s q).toArray) (Blk.all F19.out rfl) (by rw [J2,HPP.out]) rfl rfl ?_;refine nm ?_;refine J3 (cs:=(u8s q).toArray) F18.out (by simp only [J2,List.size_toArray,List.length_append,List.length_singleton,List.length_map,HPP.out,HZ32.out]) (by rw [J2,HPP.out];exact Kl) (Jj _) rfl rfl rfl ?_;intro w20 hD hO hlD;refine nm ?_;clear hlD;have F21:=Zh (F17.trans (hO.below F17.size (fun k hk=>by rw [hk];exact HG2.out)));have F22:=Zh (F19.only hO (HN10.symm));clear F17 F19 F18;have F4':Hid (Blk w20 w.heap.size (u8s q)):=Zh hD;clear hD hO;refine tk (.int .i64 0) ?_;go_wp2_with fail
 exact bodyPost_ret (v:=.tuple #[.agg (u8s q).toArray,.int .i64 0]) (results_cell_tmp rfl _ _ w.heap.size 0 _ _ _ rfl rfl Tryz.underlying43 rfl (by rw [J2,HPP.out];exact Kl) (Blk.all F4'.out rfl)) rfl ⟨rfl,F21.out⟩
theorem Jf0(l:List (Bk×Value))(hok:JF (l.map (·.1))=false)(sv:Value)(w:World)(h:BlksAt w sv l):Calls Tryz.prog 91 #[sv] w (Zr w (.tuple #[.agg (u8s (zeros 32)).toArray,.int .i64 11])):=by
 have HZ32:=Zh (J1 32);have HBL:Hid (Below w.heap.size w w):=Zh Zq;have HBS:=Zh h;have HOK:=Zh hok;obtain⟨sa,sc,he,-⟩:=h;have HE:=Zh he;clear he;clear hok;go_enter Tryz.func91,Tryz.ntmps91;go_upto_region 0 with fail;refine Zl ?_;refine J4 QB rfl ?_;intro w1 hA hb hl;refine nm ?_;clear hl;have HG2:Hid (w.heap.size≤w.heap.size):=Zh HBL.size;have F3:=Zh (HBL.trans (hb.mono HBL.size));clear HBL;have F4:Hid (Blk w1 w.heap.size (u8s (zeros 32))):=Zh hA;clear hA hb;refine tk (.int .i64 0) ?_;go_upto_region 1 with fail;refine Zl ?_;refine tk (sv) ?_ (hr:=by have hq:=HE.out;rw [hq];go_simp);refine J0 rfl fun K hK=>?_;go_simp;refine (J6y l HOK.out sv _ (HBS.below F3.out)).mono ?_;rintro e w5 ⟨Tw5,dw5,tw5,tsw5,rfl,hc,hb⟩;have F6:=Zh (F3.trans (hb.mono F3.size));have F7:=Zh (F4.below hb F4.lt);clear F3 F4;have F8:=Zh hc;clear hb hc;refine hK _ _ (nm ?_);clear hK K;refine tk (.tuple #[.agg (u8s (zeros 32)).toArray,.iface Tw5 dw5]) ?_;refine tk (.agg (u8s (zeros 32)).toArray) ?_;refine tk (.iface Tw5 dw5) ?_;refine J4 QB rfl ?_;intro w9 hA hb hl;refine nm ?_;clear hl;refine J3 (cs:=(u8s (zeros 32)).toArray) hA (by simp only [J2,List.size_toArray,List.length_append,List.length_singleton,List.length_map,HZ32.out]) (by rw [J2,HZ32.out];exact Kl) (Jj _) rfl rfl rfl ?_;intro w10 hD hO hlD;refine nm ?_;clear hlD hA;have hbb:Below w5.heap.size w5 w10:=hb.trans (hO.below hb.size fun k hk=>Nat.le_of_eq hk.symm);clear hb hO;have HN11:=Zh (Nat.ne_of_lt F7.lt);have HG12:Hid (w.heap.size≤w5.heap.size):=Zh F6.size;have F13:=Zh (F6.trans (hbb.mono F6.size));have F14:=Zh (F7.below hbb F7.lt);have F15:=Zh (F8.below Zy hbb);clear F6 F7 F8;have F16:Hid (Blk w10 w5.heap.size (u8s (zeros 32))):=Zh hD;clear hD hbb w9;generalize w5.heap.size=g17 at *;clear w5;refine tk (.iface Tw5 dw5) ?_;go_upto_region 2 with fail;refine Zl ?_;refine tk (.iface Tw5 dw5) ?_;refine J0 rfl fun K hK=>?_;go_simp;refine (YE 11 11 true rfl _ _ _ _ F15.out).mono ?_;rintro e w18 ⟨rfl,hb⟩;have F19:=Zh (F13.trans (hb.mono F13.size));have F20:=Zh (F14.below hb F14.lt);have F21:=Zh (F15.below Zy hb);have F22:=Zh (F16.below hb F16.lt);clear F13 F14 F15 F16;clear hb;refine hK _ _ (nm ?_);clear hK K;go_upto_region 3 with fail;refine Zl ?_;refine Ji (QS _) rfl ?_;refine nm ?_;refine J3 (cs:=(u8s (zeros 32)).toArray) F20.out (by simp only [J2,List.size_toArray,List.length_append,List.length_singleton,List.length_map,HZ32.out]) (by rw [J2,HZ32.out];exact Kl) (Jj _) rfl rfl rfl ?_;intro w23 hD hO hlD;refine nm ?_;clear hlD;have F24:=Zh (F19.trans (hO.below F19.size (fun k hk=>by rw [hk];exact HG2.out)));have F25:=Zh (F21.keep hO (Blk.noStr F20.out (u8s_noStr _)));have F26:=Zh (F22.only hO (HN11.symm));clear F19 F21 F22 F20;have F4':Hid (Blk w23 w.heap.size (u8s (zeros 32))):=Zh hD;clear hD hO;refine tk (.int .i64 11) ?_;go_wp2_with fail
 exact bodyPost_ret (v:=.tuple #[.agg (u8s (zeros 32)).toArray,.int .i64 11]) (results_cell_tmp rfl _ _ w.heap.size 0 _ _ _ rfl rfl Tryz.underlying43 rfl (by rw [J2,HZ32.out];exact Kl) (Blk.all F4'.out rfl)) rfl ⟨rfl,F24.out⟩
def QX(l:List (Bk×Value)):List Value:=l.flatMap fun x=>x.1.cells x.2
def kn(L:List Bk):List Int:=if JF L=true then Q5 L else zeros 32
def jG(L:List Bk):Int:=if JF L=true then 0 else 11
theorem J09(l:List (Bk×Value))(sv:Value)(w:World)(h:BlksAt w sv l)(hev:ErrVar w):Calls Tryz.prog 91 #[sv] w fun e w'=>e=.returned (.tuple #[.agg (u8s (kn (l.map (·.1)))).toArray,.int .i64 (jG (l.map (·.1)))])∧Below w.heap.size w w':=by
 unfold kn jG;cases hc:JF (l.map (·.1)) with
 | true=>simpa using Jbf l hc sv w h hev
 | false=>simpa using Jf0 l hc sv w h
end Fo
end Go.Proofs.YtdbfmikeaoaebaaGreatDoor
