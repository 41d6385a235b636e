/- Steps. -/
import Derived.Test.YtdbfmikeaoaebaaGreatDoorProg
import Derived.WalkKit
import Derived.WalkSpells
import Derived.WalkLawsBesides
import Derived.Deep.AppendLies
import Derived.Deep.LoopGhost
import Derived.Laws.CopyRow
import Derived.Laws.Rows
import Derived.Laws.StructEq
import Derived.Lib.Hide
import Derived.Deep.DeepFit
import Derived.Deep.DeepMust
import Derived.Lib.EndianBits
import Derived.OrdersHeld
import Derived.Deep.Cut
import Derived.Deep.CutRange
import Derived.Deep.Upon
import Derived.Lib.AppendZeros
set_option linter.unusedSimpArgs false
set_option linter.unusedVariables false
set_option maxRecDepth 100000
set_option maxHeartbeats 4000000
namespace Go.Proofs.YtdbfmikeaoaebaaGreatDoor
open Go.RowKit
theorem Zh{p:Prop}(h:p):Go.RowKit.Hid p:=Lib.hid h
theorem Zl{P:Program}{Q:Exit→Act→World→Prop}{a:Act}{w:World}{id:Nat}{l:List Oper}(h:wpList P l.toArray Q l a w):Code.wp P (Code.region id l.toArray false) Q a w:=wp_region_lit h
theorem Zn{P:Program}{ops:Array Oper}{Q:Exit→Act→World→Prop}{a:Act}{w:World}(h:Q .normal a w):wpList P ops Q [] a w:=wpList_nil h
theorem Zq{n:Nat}{w:World}:Below n w w:=Below.refl n w
theorem Zy{n:Nat}:n≤n:=Nat.le_refl n
theorem Zg{α:Type _}{l:List α}{i:Nat}{a:α}(h:l[i]? = some a):∃h:i<l.length,l[i]=a:=List.getElem?_eq_some_iff.1 h
abbrev Zr(w:World)(v:Value)(e:Ending)(w':World):Prop:=e=.returned v∧Below w.heap.size w w'
variable {B b fuel g i k n:Nat} {K:Act→World→Prop} {P:Program} {Q:Exit→Act→World→Prop} {S:Nat→Prop} {W w w' w1:World} {a:Act} {cs:Array Value} {listed:Array Bool} {md:Region.Mode} {o:Oper} {ops:Array Oper} {rest:List Oper} {sv v:Value} {t:TypeId} {y:Operand}
structure Bk where
 kind:Int
 id:Int
 page:List Int
 off:Int
 bytes:List Int
 prev:Int
 heads:List Int
def Jh(n:Int):Prop:=-9223372036854775808≤n∧n<9223372036854775808
def Ks(n:Int):Prop:=0≤n∧n<256
structure Bk.Wf (b:Bk):Prop where
 kind:Jh b.kind
 id:Jh b.id
 off:Jh b.off
 prev:Jh b.prev
 page:b.page.length=32
 pages:∀x∈b.page,Ks x
 bytes:b.bytes.length≤9223372036854775807
 bytess:∀x∈b.bytes,Ks x
 heads:b.heads.length=8
 headss:∀x∈b.heads,Jh x
def zeros(n:Nat):List Int:=List.replicate n 0
theorem J1(n:Nat):(zeros n).length=n:=by simp [zeros]
def K6(h:Int):Bool:=decide (h=0)||decide (h=1)||(decide (4≤h)&&decide (h≤1023))
def within(n a b:Int):Bool:=decide (a≤n)&&decide (n≤b)
def Bk.plain(b:Bk):Bool:=decide (b.off=0)&&decide (b.bytes.length=0)&&decide (b.prev=0)
def Bk.diff(b:Bk):Bool:=within b.bytes.length 1 16&&within b.off 0 (32-b.bytes.length)&&K6 b.prev&&decide (b.prev≠0)
def Bk.good(b:Bk):Bool :=
 if b.kind=1 then within b.id 0 63&&b.plain&&decide (b.heads=zeros 8)
 else if b.kind=2 then within b.id 0 63&&b.diff&&decide (b.page=zeros 32)&&decide (b.heads=zeros 8)
 else if b.kind=3 then within b.id 0 7&&b.heads.all K6&&b.plain&&decide (b.page=zeros 32)
 else false
def le:Nat→Int→List Int
 | 0,_=>[]
 | n+1,v=>v%256::le n (v/256)
theorem J7(n:Nat)(v:Int):(le n v).length=n:=by
 induction n generalizing v with
 | zero=>rfl
 | succ n ih=>simp [le,ih]
theorem X3(n:Nat)(v:Int):∀x∈le n v,Ks x:=by
 induction n generalizing v with
 | zero=>simp [le]
 | succ n ih =>
  intro x hx;simp only [le,List.mem_cons] at hx;rcases hx with rfl|hx
  · exact⟨Int.emod_nonneg _ (by decide),Int.emod_lt_of_pos _ (by decide)⟩
  · exact ih _ x hx
def Bk.enc(b:Bk)(n:Int):List Int :=
 if b.kind=1 then 1::b.id::(le 4 n++(b.page++zeros 26))
 else if b.kind=2 then 2::b.id::(le 4 n++(b.off::b.bytes.length::(b.bytes++(zeros (16-b.bytes.length)++(le 2 b.prev++zeros 38)))))
 else 3::b.id::(le 4 n++(b.heads.flatMap (le 2)++zeros 42))
def Bk.sec(b:Bk)(n:Int):List Int:=if b.good then b.enc n else zeros 64
def Bk.err(b:Bk):Int:=if b.good then 0 else 11
def Bk.none:Bk:=⟨0,0,zeros 32,0,[],0,zeros 8⟩
structure Sc (s:List Int):Prop where
 length:s.length=64
 bytes:∀x∈s,Ks x
theorem flat_length(l:List Int):(l.flatMap (le 2)).length=2*l.length:=by
 induction l with
 | nil=>rfl
 | cons x l ih=>simp only [List.flatMap_cons,List.length_append,ih,J7,List.length_cons];omega
theorem yS(l:List Int)(h:l.length=8):∃a b c d e f g k,l=[a,b,c,d,e,f,g,k]:=by
 match l,h with
 | [a,b,c,d,e,f,g,k],_=>exact⟨a,b,c,d,e,f,g,k,rfl⟩
theorem ZB{h:Int}(e:K6 h=true):0≤h∧h<65536:=by
 simp only [K6,Bool.or_eq_true,Bool.and_eq_true,decide_eq_true_eq] at e;omega
theorem QF{b:Bk}(h:b.good=true):(b.kind=1∨b.kind=2∨b.kind=3)∧0≤b.id∧b.id≤63:=by
 unfold Bk.good within at h;split at h
 · simp at h;omega
 · split at h
   · simp at h;omega
   · split at h
     · simp at h;omega
     · cases h
theorem qZ{b:Bk}(h:b.good=true)(k:b.kind=2):(1≤b.bytes.length∧b.bytes.length≤16)∧(0≤b.off∧b.off≤32-b.bytes.length)∧(0≤b.prev∧b.prev<65536)∧b.page=zeros 32∧b.heads=zeros 8:=by
 simp [Bk.good,k,Bk.diff,within] at h;obtain⟨⟨⟨_,⟨⟨h1,h2⟩,h3⟩,h4⟩,h5⟩,h6⟩:=h;have:=ZB h3;exact⟨by omega,by omega,this,h5,h6⟩
theorem Jg5{b:Bk}(h:b.good=true)(k:b.kind=3):(∀x∈b.heads,0≤x∧x<65536)∧b.off=0∧b.bytes=[]∧b.prev=0∧b.page=zeros 32:=by
 simp [Bk.good,k,Bk.plain] at h;obtain⟨⟨⟨_,h2⟩,⟨h3,h4⟩,h5⟩,h6⟩:=h;exact⟨fun x hx=>ZB (h2 x hx),h3,h4,h5,h6⟩
theorem enc_length{b:Bk}(h:b.good=true)(w:b.Wf)(n:Int):(b.enc n).length=64:=by
 have hp:=w.page;have hh:=w.heads;unfold Bk.enc;split
 · simp [J7,J1,hp]
 · split
   · rename_i k
     have:=(qZ h k).1;simp [J7,J1];omega
   · simp only [List.length_cons,List.length_append,J7,J1,flat_length,hh]
theorem J7w{b:Bk}(h:b.good=true)(w:b.Wf)(n:Int):∀x∈b.enc n,Ks x:=by
 have hz:∀m,∀x∈zeros m,Ks x:=fun m x hx=>by
  rw [List.eq_of_mem_replicate hx];exact⟨by decide,by decide⟩
 obtain⟨hk,h0,h1⟩:=QF h;have hid:Ks b.id:=⟨h0,by omega⟩
 unfold Bk.enc;split
 · intro x hx;simp only [List.mem_cons,List.mem_append] at hx;rcases hx with rfl|rfl|hx|hx|hx
   · exact⟨by decide,by decide⟩
   · exact hid
   · exact X3 _ _ x hx
   · exact w.pages x hx
   · exact hz _ x hx
 · split
   · rename_i k
     have g2:=qZ h k;intro x hx;simp only [List.mem_cons,List.mem_append] at hx;rcases hx with rfl|rfl|hx|rfl|rfl|hx|hx|hx|hx
     · exact⟨by decide,by decide⟩
     · exact hid
     · exact X3 _ _ x hx
     · exact⟨g2.2.1.1,by omega⟩
     · exact⟨by omega,by omega⟩
     · exact w.bytess x hx
     · exact hz _ x hx
     · exact X3 _ _ x hx
     · exact hz _ x hx
   · intro x hx;simp only [List.mem_cons,List.mem_append,List.mem_flatMap] at hx;rcases hx with rfl|rfl|hx|⟨y,_,hx⟩|hx
     · exact⟨by decide,by decide⟩
     · exact hid
     · exact X3 _ _ x hx
     · exact X3 _ _ x hx
     · exact hz _ x hx
theorem Jgq{b:Bk}(h:b.good=true)(w:b.Wf)(n:Int):Sc (b.enc n):=⟨enc_length h w n,J7w h w n⟩
def Blk(w:World)(b:Nat)(l:List Value):Prop:=∃t,w.heap[b]? = some (.cells l.toArray t (0,0))
theorem Blk.cell{l:List Value}(h:Blk w b l)(hi:l[i]? = some v):w.cell? ⟨b,i,none⟩=some v:=by
 obtain⟨t,ht⟩:=h;rw [cell_of_row w b i _ t _ ht];simpa using hi
theorem Blk.frozen{l:List Value}(h:Blk w b l)(i:Nat):w.frozen? ⟨b,i,none⟩=false:=by
 obtain⟨t,ht⟩:=h;exact frozen_of_row w b i _ t ht
theorem Blk.lt{l:List Value}(h:Blk w b l):b<w.heap.size:=by
 obtain⟨t,ht⟩:=h;exact (Array.getElem?_eq_some_iff.1 ht).1
theorem Blk.of_block{l:List Value}(h:Blk w b l)(e:w'.heap[b]? = w.heap[b]?):Blk w' b l:=by
 obtain⟨t,ht⟩:=h;exact⟨t,e.trans ht⟩
theorem Blk.set{l:List Value}(h:Blk w b l)(i:Nat)(v:Value):Blk (w.setCell ⟨b,i,none⟩ v) b (l.set i v):=by
 obtain⟨t,ht⟩:=h;refine⟨t,?_⟩;rw [heap_setCell_same w b i _ t v ht];simp
theorem Blk.setOther{l:List Value}(h:Blk w b l){a:Addr}(hne:b≠a.block)(v:Value):Blk (w.setCell a v) b l :=
 h.of_block (heap_setCell_other w a b v hne)
theorem Blk.alloc{l:List Value}(h:Blk w b l)(o:Obj):Blk (w.alloc o) b l:=h.of_block (heap_alloc_old w o h.lt)
theorem Blk.new(w:World)(cs:Array Value)(t:TypeId):Blk (w.alloc (.cells cs t)) w.heap.size cs.toList:=⟨t,by simpa using heap_alloc_new w (.cells cs t)⟩
theorem Blk.drew{l:List Value}(h:Blk w b l):Blk w.drew b l:=h
theorem Blk.row{l:List Value}(h:Blk w b l)(cs:Array Value):Blk (w.setRow b cs) b cs.toList:=by
 obtain⟨t,ht⟩:=h;exact⟨t,by simpa using setRow_heap w b _ cs t _ ht⟩
structure Only (S:Nat→Prop) (w w':World):Prop where
 os:w'.os=w.os
 tape:w'.tape=w.tape
 output:w'.output=w.output
 size:w.heap.size≤w'.heap.size
 block:∀k,k<w.heap.size→¬S k→w'.heap[k]? = w.heap[k]?
theorem Only.refl(S:Nat→Prop)(w:World):Only S w w:=⟨rfl,rfl,rfl,Nat.le_refl _,fun _ _ _=>rfl⟩
theorem Only.trans{a b c:World}(h:Only S a b)(k:Only S b c):Only S a c :=
 ⟨k.os.trans h.os,k.tape.trans h.tape,k.output.trans h.output,Nat.le_trans h.size k.size,fun i hi hs=>(k.block i (Nat.lt_of_lt_of_le hi h.size) hs).trans (h.block i hi hs)⟩
theorem Only.more{T:Nat→Prop}{a b:World}(h:Only S a b)(hT:∀k,k<a.heap.size→S k→T k):Only T a b :=
 ⟨h.os,h.tape,h.output,h.size,fun i hi hs=>h.block i hi fun hS=>hs (hT i hi hS)⟩
theorem Only.below{a b:World}(h:Only S a b)(hB:B≤a.heap.size)(hS:∀k,S k→B≤k):Below B a b :=
 ⟨h.os,h.tape,h.output,h.size,fun i hi=>h.block i (by omega) fun hs=>by have:=hS i hs;omega⟩
theorem Only.alloc{a:World}(h:Only S a w)(o:Obj):Only S a (w.alloc o) :=
 h.trans ⟨rfl,rfl,rfl,by simp,fun k hk _=>heap_alloc_old w o hk⟩
theorem Only.drew{a:World}(h:Only S a w):Only S a w.drew:=⟨h.os,h.tape,h.output,h.size,h.block⟩
theorem Only.setCell{a:World}(h:Only S a w){p:Addr}(hp:S p.block∨a.heap.size≤p.block)(v:Value):Only S a (w.setCell p v):=by
 refine⟨h.os,h.tape,h.output,by simpa using h.size,fun k hk hs=>?_⟩;have hne:k≠p.block:=by
  rintro rfl;rcases hp with h1|h1
  · exact hs h1
  · omega
 exact (heap_setCell_other w p k v hne).trans (h.block k hk hs)
theorem Only.setRow{a:World}(h:Only S a w)(hp:S g∨a.heap.size≤g)(cs:Array Value):Only S a (w.setRow g cs):=by
 refine⟨h.os,h.tape,h.output,by simpa using h.size,fun k hk hs=>?_⟩;have hne:k≠g:=by
  rintro rfl;rcases hp with h1|h1
  · exact hs h1
  · omega
 exact (setRow_other w g k cs hne).trans (h.block k hk hs)
theorem Only.grown{a:World}{row:Option Nat}(h:Only S a w)(hg:w.grownBy w' row)(hr:∀k,row=some k→S k∨a.heap.size≤k):Only S a w' :=
 ⟨hg.os.trans h.os,hg.tape.trans h.tape,hg.output.trans h.output,Nat.le_trans h.size hg.size,fun k hk hs=>(hg.block k (Nat.lt_of_lt_of_le hk h.size) fun e=>by
  rcases hr k e.symm with h1|h1
  · exact hs h1
  · omega).trans (h.block k hk hs)⟩
theorem Blk.only{l:List Value}(h:Blk w b l)(ho:Only S w w')(hs:¬S b):Blk w' b l:=h.of_block (ho.block b h.lt hs)
theorem Blk.below{l:List Value}(h:Blk w b l)(ho:Below B w w')(hs:b<B):Blk w' b l:=h.of_block (ho.block b hs)
section
variable {P:Program}
theorem Kb(w:World)(g off:Nat)(ty:TypeId)(cs:Array Value)(d:TypeDesc)(hu:P.underlying ty=some d)(hd:(match d with|.struct _|.array _ _=>true|_=>false)=true)(hi:(P.info? ty).map (·.size)=some cs.size)(hc:∀j (h:j<cs.size),w.cell? ⟨g,off+j,none⟩=some cs[j]):(loadVar ty ⟨g,off,none⟩).run P w=.ok (.agg cs) w:=by
 have hl:(loadCells ⟨g,off,none⟩ cs.toList.length).run P w=.ok cs.toList.toArray w :=
  run_loadCells_list (P:=P) w ⟨g,off,none⟩ cs.toList (fun j v hv=>by
   have hadd:(⟨g,off,none⟩:Addr).add j=⟨g,off+j,none⟩:=by unfold Addr.add;split <;> simp_all
   obtain⟨hj,rfl⟩:=List.getElem?_eq_some_iff.1 hv
   rw [hadd,hc j (by simpa using hj)]
   simp)
 cases hq:P.info? ty with
 | none=>simp [hq] at hi
 | some i =>
  have hs:i.size=cs.size:=by simpa [hq] using hi
  have hagg:(isAgg ty).run P w=.ok true w:=by
   unfold isAgg;rw [Sem.run_bind,run_underlying hu w];cases d <;> simp_all
  simp only [Array.length_toList,Array.toArray_toList] at hl;simp [loadVar,Sem.run_bind,hagg,sizeOf,typeInfo,hq,hs,hl]
theorem J0x(ty:TypeId)(x:Operand)(ho:o.op=.load ty x)(g off:Nat)(hx:a.eval x=.pointer (some ⟨g,off,none⟩))(cs:Array Value)(d:TypeDesc)(hu:P.underlying ty=some d)(hd:(match d with|.struct _|.array _ _=>true|_=>false)=true)(hi:(P.info? ty).map (·.size)=some cs.size)(hc:∀j (h:j<cs.size),w.cell? ⟨g,off+j,none⟩=some cs[j])(h:K (a.put o.dst (.agg cs)) w):o.wp P a w K Q:=by
 unfold Oper.wp execOp;simp only [ho,hx,Instr.loadAt,Instr.sureAddr,Sem.run_bind,Sem.run_pure,Result.andThen_ok,Kb w g off ty cs d hu hd hi hc];exact h
theorem J0(hw:Region.wanted o (yielded ops a.tmps)=true)(h:∀K:Act→World→Prop,(∀a w,wpList P ops Q rest a w→K a w)→o.wp P a w K Q):wpList P ops Q (o::rest) a w :=
 wpList_step fun K hK=>by rw [if_pos hw];exact h K hK
theorem Jc(hw:Region.wanted o (yielded ops a.tmps)=true)(ty:TypeId)(x:Operand)(ho:o.op=.load ty x)(g off:Nat)(hx:a.eval x=.pointer (some ⟨g,off,none⟩))(cs:Array Value)(d:TypeDesc)(hu:P.underlying ty=some d)(hd:(match d with|.struct _|.array _ _=>true|_=>false)=true)(hi:(P.info? ty).map (·.size)=some cs.size)(hc:∀j (h:j<cs.size),w.cell? ⟨g,off+j,none⟩=some cs[j])(h:wpList P ops Q rest (a.put o.dst (.agg cs)) w):wpList P ops Q (o::rest) a w :=
 J0 hw fun _ hK=>J0x ty x ho g off hx cs d hu hd hi hc (hK _ _ h)
def Jt(l:List Value)(off:Nat)(cs:Array Value):Array Value:=(l.take off++cs.toList++l.drop (off+cs.size)).toArray
theorem xN(w:World)(g off:Nat)(ty:TypeId)(l:List Value)(cs:Array Value)(hg:Blk w g l)(hi:(P.info? ty).map (·.size)=some cs.size)(hfit:off+cs.size≤l.length)(h1:∀v∈cs,v.oneCell'=true) :
 (storeVar ty ⟨g,off,none⟩ (.agg cs)).run P w=.ok () (w.setRow g (Jt l off cs)):=by
 obtain⟨t,ht⟩:=hg;have:=run_storeCells_at P g off t cs.toList 0 l.toArray w ht (by simpa using hfit) (fun v hv=>h1 v (by simpa using hv));cases hq:P.info? ty with
 | none=>simp [hq] at hi
 | some i =>
  have hs:cs.size=i.size:=by simp [hq] at hi;omega
  simp only [Nat.add_zero,Array.length_toList] at this;simp only [storeVar,sizeOf,typeInfo,Value.cells,hs,Sem.run_bind,Jt] at this ⊢;simp [this,hq]
theorem Kp(ty:TypeId)(x y:Operand)(ho:o.op=.store ty x y)(g off:Nat)(cs:Array Value)(hx:a.eval x=.pointer (some ⟨g,off,none⟩))(hy:a.eval y=.agg cs)(l:List Value)(hg:Blk w g l)(hi:(P.info? ty).map (·.size)=some cs.size)(hfit:off+cs.size≤l.length)(h1:∀v∈cs,v.oneCell'=true)(h:K (a.put o.dst undef) (w.setRow g (Jt l off cs))):o.wp P a w K Q:=by
 unfold Oper.wp execOp;simp only [ho,hx,hy,Instr.storeAt,Instr.sureAddr,Sem.run_bind,Sem.run_pure,Result.andThen_ok,xN w g off ty l cs hg hi hfit h1];exact h
theorem KC(hw:Region.wanted o (yielded ops a.tmps)=true)(ty:TypeId)(x y:Operand)(ho:o.op=.store ty x y)(g off:Nat)(cs:Array Value)(hx:a.eval x=.pointer (some ⟨g,off,none⟩))(hy:a.eval y=.agg cs)(l:List Value)(hg:Blk w g l)(hi:(P.info? ty).map (·.size)=some cs.size)(hfit:off+cs.size≤l.length)(h1:∀v∈cs,v.oneCell'=true)(h:wpList P ops Q rest (a.put o.dst undef) (w.setRow g (Jt l off cs))):wpList P ops Q (o::rest) a w :=
 J0 hw fun _ hK=>Kp ty x y ho g off cs hx hy l hg hi hfit h1 (hK _ _ h)
theorem XH(w:World)(e:TypeId)(k:IntKind)(i:TypeInfo)(cs:Array Value)(he:P.underlying e=some (.int k))(hi:P.info? e=some i)(hs:i.size=1)(j:Nat)(hj:j<cs.size) :
 (part e cs j).run P w=.ok cs[j] w:=by
 have hagg:(isAgg e).run P w=.ok false w:=by
  unfold isAgg;rw [Sem.run_bind,run_underlying he w];rfl
 simp [part,Sem.run_bind,hagg,sizeOf,typeInfo,hi,hs,hj]
end
theorem QG(w:World)(d:Nat)(t e:TypeId)(n:Nat)(k q:IntKind)(i:TypeInfo)(l m:List Int)(ht:P.underlying t=some (.array n e))(he:P.underlying e=some (.int k))(hi:P.info? e=some i)(hs:i.size=1)(hl:l.length=n)(hm:m.length=n):(Op.equalIn (d+2) t (.agg (l.map (Value.int q)).toArray) (.agg (m.map (Value.int q)).toArray)).run P w=.ok (decide (l=m)) w:=by
 have key:∀js:List Nat,(∀j∈js,j<n)→(Sem.run P
  (forIn js ((none:Option Bool),()) fun i __s=>do
   let __do_lift ←part e (List.map (Value.int q) l).toArray i
   let __do_lift_1 ←part e (List.map (Value.int q) m).toArray i
   let __do_lift ←Op.equalIn (d+1) e __do_lift __do_lift_1
   if (!__do_lift)=true then pure (ForInStep.done (some false,())) else pure (ForInStep.yield (none,())))
  w)=.ok (if ∀j∈js,l[j]? = m[j]? then (none,()) else (some false,())) w:=by
  intro js hj
  induction js with
  | nil=>simp
  | cons j js ih =>
   have h1:j<l.length:=by rw [hl];exact hj j (by simp)
   have h2:j<m.length:=by rw [hm];exact hj j (by simp)
   have p1:=XH (P:=P) w e k i (l.map (Value.int q)).toArray he hi hs j (by simpa using h1);have p2:=XH (P:=P) w e k i (m.map (Value.int q)).toArray he hi hs j (by simpa using h2);simp only [List.getElem_toArray,List.getElem_map] at p1 p2;have he':=run_equalIn_int (P:=P) w d e q k l[j] m[j] he;simp only [List.forIn_cons,Sem.run_bind,p1,p2,Result.andThen_ok,he']
   by_cases hjm:l[j]=m[j]
   · have hb:(l[j] == m[j])=true:=by simpa using hjm
     simp only [hb,Bool.not_true,Bool.false_eq_true,if_false,Sem.run_pure,Result.andThen_ok];rw [ih fun x hx=>hj x (by simp [hx])];simp [h1,h2,hjm]
   · have hb:(l[j] == m[j])=false:=by simpa using hjm
     simp only [hb,Bool.not_false,if_true,Sem.run_pure,Result.andThen_ok];rw [if_neg];intro hall;have:=hall j (by simp);rw [List.getElem?_eq_getElem h1,List.getElem?_eq_getElem h2] at this;exact hjm (Option.some.inj this)
 unfold Op.equalIn;simp only [Sem.run_bind,run_underlying ht,Result.andThen_ok,sizeOf,typeInfo,run_program,hi,Sem.run_pure,hs,Std.Legacy.Range.forIn_eq_forIn_range',Std.Legacy.Range.size,Nat.sub_zero,Nat.add_sub_cancel,Nat.div_one,Nat.mul_one];rw [key _ fun j hj=>by have:=List.mem_range'_1.1 hj;omega];have heq:(∀j∈List.range' 0 n,l[j]? = m[j]?)↔l=m:=by
  constructor
  · intro h;apply List.ext_getElem?;intro j
    by_cases hj:j<n
    · exact h j (List.mem_range'_1.2 (by omega))
    · rw [List.getElem?_eq_none (by omega),List.getElem?_eq_none (by omega)]
  · rintro rfl j _;rfl
 by_cases h:l=m
 · rw [if_pos (heq.2 h)];simp [h]
 · rw [if_neg fun hh=>h (heq.1 hh)];simp [h]
theorem ZC(w:World)(t e:TypeId)(n:Nat)(k q:IntKind)(i:TypeInfo)(l m:List Int)(ht:P.underlying t=some (.array n e))(he:P.underlying e=some (.int k))(hi:P.info? e=some i)(hs:i.size=1)(hl:l.length=n)(hm:m.length=n):(binOp .eql t (.agg (l.map (Value.int q)).toArray) (.agg (m.map (Value.int q)).toArray)).run P w=.ok (.bool (decide (l=m))) w:=by
 have h:=QG (P:=P) w 9998 t e n k q i l m ht he hi hs hl hm;simp only [binOp];simp [Op.equal,Op.maxDepth,h]
theorem Y3(w:World)(t e:TypeId)(n:Nat)(k q:IntKind)(i:TypeInfo)(l m:List Int)(ht:P.underlying t=some (.array n e))(he:P.underlying e=some (.int k))(hi:P.info? e=some i)(hs:i.size=1)(hl:l.length=n)(hm:m.length=n):(binOp .neq t (.agg (l.map (Value.int q)).toArray) (.agg (m.map (Value.int q)).toArray)).run P w=.ok (.bool (!decide (l=m))) w:=by
 have h:=QG (P:=P) w 9998 t e n k q i l m ht he hi hs hl hm;simp only [binOp];simp [Op.equal,Op.maxDepth,h]
theorem Yo(w:World)(t e:TypeId)(n:Nat)(k q:IntKind)(i:TypeInfo)(l:List Int)(ht:P.underlying t=some (.array n e))(he:P.underlying e=some (.int k))(hi:P.info? e=some i)(hs:i.size=1)(hl:l.length=n)(j:Nat)(x:Int)(hx:l[j]? = some x):(Instr.index t (.agg (l.map (Value.int q)).toArray) (.int .i64 j)).run P w=.ok (.int q x) w:=by
 obtain⟨hj,rfl⟩:=List.getElem?_eq_some_iff.1 hx;have p1:=XH (P:=P) w e k i (l.map (Value.int q)).toArray he hi hs j (by simpa using hj);simp only [List.getElem_toArray,List.getElem_map] at p1;have h1:(0:Int)≤(j:Int)∧(j:Int)<(n:Int):=by omega
 simp [Instr.index,run_underlying ht,asIntOf,h1,sizeOf,typeInfo,hi,hs,p1,Sem.run_bind];intro hnj;omega
theorem Jb{a b:Bool}(h:a=b):Ending.returned (.bool a)=Ending.returned (.bool b):=by rw [h]
theorem Xa(n a b:Int)(w:World):Calls Tryz.prog 139 #[.int .i64 n,.int .i64 a,.int .i64 b] w fun e w'=>e=.returned (.bool (within n a b))∧w=w':=by
 unfold within
 by_cases h1:a≤n <;> by_cases h2:n≤b <;> simp only [h1,h2,decide_true,decide_false,Bool.and_true,Bool.and_false]
 all_goals
  go_enter Tryz.func139,Tryz.ntmps139
  go_wp2_with fail
  go_ret;exact⟨rfl,rfl⟩
theorem kI(h:Int)(w:World):Calls Tryz.prog 163 #[.int .i64 h] w fun e w'=>e=.returned (.bool (K6 h))∧w=w':=by
 have H:=Zh fun w=>Xa h 4 1023 w;unfold K6
 by_cases h0:h=0
 · subst h0;go_enter Tryz.func163,Tryz.ntmps163
   go_wp2_with fail
   go_ret;exact⟨rfl,rfl⟩
 · by_cases h1:h=1
   · subst h1;go_enter Tryz.func163,Tryz.ntmps163
     go_wp2_with fail
     go_ret;exact⟨rfl,rfl⟩
   · simp only [h0,h1,decide_false,Bool.false_or];go_enter Tryz.func163,Tryz.ntmps163
     go_wp2_with fail
     refine (H.out _).mono ?_;rintro e w1 ⟨rfl,rfl⟩
     go_wp2_with fail
     go_ret;exact⟨Jb (by simp [h0,h1,within]),rfl⟩
def lay(l:List Value)(o:Nat)(bs:List Int):List Value:=l.take o++bs.map (Value.int .u8)++l.drop (o+bs.length)
theorem ko(l:List Value)(o:Nat):lay l o []=l:=by simp [lay]
theorem KS(l:List Value)(o:Nat)(bs:List Int)(x:Int)(h:o+bs.length<l.length):(lay l o bs).set (o+bs.length) (.int .u8 x)=lay l o (bs++[x]):=by
 have h1:(l.take o).length=o:=by simp;omega
 unfold lay;rw [List.set_append_right _ _ (by simp;omega)];simp only [List.length_append,h1,List.length_map,Nat.sub_self,List.map_append,List.map_cons,List.map_nil];rw [List.append_assoc,List.append_assoc,List.append_assoc];congr 1;rw [show l.drop (o+bs.length)=l[o+bs.length]::l.drop (o+bs.length+1) from List.drop_eq_getElem_cons h];simp [Nat.add_assoc]
theorem Jgr(l:List Value)(o:Nat)(bs:List Int)(k:Nat)(h1:o+bs.length≤k):(lay l o bs)[k]? = l[k]? := by
 unfold lay
 by_cases hk:k<l.length
 · have h2:(l.take o).length=o:=by simp;omega
   rw [List.getElem?_append_right (by simp;omega)];simp only [List.length_append,h2,List.length_map,List.getElem?_drop];congr 1;omega
 · rw [List.getElem?_eq_none (by simp;omega),List.getElem?_eq_none (by omega)]
theorem le4(v:Int):le 4 v=[v%256,v/256%256,v/65536%256,v/16777216%256]:=by
 simp only [le,List.cons.injEq,and_true,true_and];omega
theorem le2(v:Int):le 2 v=[v%256,v/256%256]:=rfl
theorem Qh{l:List Value}{o:Nat}{bs:List Int}(h:o+n≤l.length)(h1:o+bs.length≤k)(h2:k<o+n):(lay l o bs)[k]? = some (l.getD k undef):=by
 rw [Jgr l o bs k h1,List.getD_eq_getElem?_getD,List.getElem?_eq_getElem (by omega)];rfl
theorem put4_any(w:World)(g o cap:Nat)(l:List Value)(hb:Blk w g l)(ho:o+4≤l.length)(v:Int)(hv:0≤v∧v<4294967296) :
 Calls Tryz.prog 165 #[.slice (some ⟨g,o,none⟩) 4 cap,.int .u32 v] w fun e w'=>e=.returned (.tuple #[])∧Blk w' g (lay l o (le 4 v))∧Only (fun k=>k=g) w w':=by
 obtain⟨hv1,hv2⟩:=hv;go_enter Tryz.func165,Tryz.ntmps165
 go_wp2_with fail
 go_loopg [7] 4 (fun q i wr=>∃k:Nat,4-k≤q∧k≤4∧i=.int .i64 k∧Blk wr g (lay l o ((le 4 v).take k))∧Only (fun k=>k=g) w wr)
 case atStart=>exact⟨0,by omega,by omega,rfl,by rw [List.take_zero,ko];exact hb,Only.refl _ _⟩
 case round =>
  obtain⟨k,hg,hk,rfl,hb1,hon⟩:=hrel;rcases (show k=0∨k=1∨k=2∨k=3∨k=4 by omega) with rfl|rfl|rfl|rfl|rfl
  · have hcell:=hb1.cell (Qh (k:=o) ho (by rw [List.length_take,J7];omega) (by omega));have hfro:=hb1.frozen o;have HB:=Zh hb1;have HO:=Zh hon;clear hb1 hon
    go_wp2_with fail
    go_roundg (4-1)
    case measure=>omega
    case rel =>
     refine⟨1,by omega,by omega,by go_num,?_,HO.setCell (.inl rfl) _⟩;have hs:=HB.set (o+0) (.int .u8 (v%256));rw [show lay l o ((le 4 v).take 1)=(lay l o ((le 4 v).take 0)).set (o+0) (.int .u8 (v%256)) from (by
      have:=KS l o ((le 4 v).take 0) (v%256) (by rw [List.length_take,J7];omega)
      simp only [le4,List.take_succ_cons,List.take_zero,List.length_cons,List.length_nil,List.cons_append,List.nil_append,Nat.zero_add,Nat.reduceAdd] at this ⊢
      exact this.symm)]
     first|exact hs|simpa using hs|(rw [show v/16777216%256=v/16777216 by omega] at hs ⊢;exact hs)
  · have hcell:=hb1.cell (Qh (k:=o+1) ho (by rw [List.length_take,J7];omega) (by omega));have hfro:=hb1.frozen (o+1);have HB:=Zh hb1;have HO:=Zh hon;clear hb1 hon
    go_wp2_with fail
    go_roundg (4-2)
    case measure=>omega
    case rel =>
     refine⟨2,by omega,by omega,by go_num,?_,HO.setCell (.inl rfl) _⟩;have hs:=HB.set (o+1) (.int .u8 (v/256%256));rw [show lay l o ((le 4 v).take 2)=(lay l o ((le 4 v).take 1)).set (o+1) (.int .u8 (v/256%256)) from (by
      have:=KS l o ((le 4 v).take 1) (v/256%256) (by rw [List.length_take,J7];omega)
      simp only [le4,List.take_succ_cons,List.take_zero,List.length_cons,List.length_nil,List.cons_append,List.nil_append,Nat.zero_add,Nat.reduceAdd] at this ⊢
      exact this.symm)]
     first|exact hs|simpa using hs|(rw [show v/16777216%256=v/16777216 by omega] at hs ⊢;exact hs)
  · have hcell:=hb1.cell (Qh (k:=o+2) ho (by rw [List.length_take,J7];omega) (by omega));have hfro:=hb1.frozen (o+2);have HB:=Zh hb1;have HO:=Zh hon;clear hb1 hon
    go_wp2_with fail
    go_roundg (4-3)
    case measure=>omega
    case rel =>
     refine⟨3,by omega,by omega,by go_num,?_,HO.setCell (.inl rfl) _⟩;have hs:=HB.set (o+2) (.int .u8 (v/65536%256));rw [show lay l o ((le 4 v).take 3)=(lay l o ((le 4 v).take 2)).set (o+2) (.int .u8 (v/65536%256)) from (by
      have:=KS l o ((le 4 v).take 2) (v/65536%256) (by rw [List.length_take,J7];omega)
      simp only [le4,List.take_succ_cons,List.take_zero,List.length_cons,List.length_nil,List.cons_append,List.nil_append,Nat.zero_add,Nat.reduceAdd] at this ⊢
      exact this.symm)]
     first|exact hs|simpa using hs|(rw [show v/16777216%256=v/16777216 by omega] at hs ⊢;exact hs)
  · have hcell:=hb1.cell (Qh (k:=o+3) ho (by rw [List.length_take,J7];omega) (by omega));have hfro:=hb1.frozen (o+3);have HB:=Zh hb1;have HO:=Zh hon;clear hb1 hon
    go_wp2_with fail
    go_roundg (4-4)
    case measure=>omega
    case rel =>
     refine⟨4,by omega,by omega,by go_num,?_,HO.setCell (.inl rfl) _⟩;have hs:=HB.set (o+3) (.int .u8 (v/16777216%256));rw [show lay l o ((le 4 v).take 4)=(lay l o ((le 4 v).take 3)).set (o+3) (.int .u8 (v/16777216%256)) from (by
      have:=KS l o ((le 4 v).take 3) (v/16777216%256) (by rw [List.length_take,J7];omega)
      simp only [le4,List.take_succ_cons,List.take_zero,List.length_cons,List.length_nil,List.cons_append,List.nil_append,Nat.zero_add,Nat.reduceAdd] at this ⊢
      exact this.symm)]
     first|exact hs|simpa using hs|(rw [show v/16777216%256=v/16777216 by omega] at hs ⊢;exact hs)
  · have HB:=Zh hb1;have HO:=Zh hon;clear hb1 hon
    go_wp2_with fail
    go_end0
    exact⟨rfl,by simpa [le4] using HB.out,HO.out⟩
theorem put2_any(w:World)(g o cap:Nat)(l:List Value)(hb:Blk w g l)(ho:o+2≤l.length)(v:Int)(hv:0≤v∧v<4294967296) :
 Calls Tryz.prog 165 #[.slice (some ⟨g,o,none⟩) 2 cap,.int .u32 v] w fun e w'=>e=.returned (.tuple #[])∧Blk w' g (lay l o (le 2 v))∧Only (fun k=>k=g) w w':=by
 obtain⟨hv1,hv2⟩:=hv;go_enter Tryz.func165,Tryz.ntmps165
 go_wp2_with fail
 go_loopg [7] 2 (fun q i wr=>∃k:Nat,2-k≤q∧k≤2∧i=.int .i64 k∧Blk wr g (lay l o ((le 2 v).take k))∧Only (fun k=>k=g) w wr)
 case atStart=>exact⟨0,by omega,by omega,rfl,by rw [List.take_zero,ko];exact hb,Only.refl _ _⟩
 case round =>
  obtain⟨k,hg,hk,rfl,hb1,hon⟩:=hrel;rcases (show k=0∨k=1∨k=2 by omega) with rfl|rfl|rfl
  · have hcell:=hb1.cell (Qh (k:=o) ho (by rw [List.length_take,J7];omega) (by omega));have hfro:=hb1.frozen o;have HB:=Zh hb1;have HO:=Zh hon;clear hb1 hon
    go_wp2_with fail
    go_roundg (2-1)
    case measure=>omega
    case rel =>
     refine⟨1,by omega,by omega,by go_num,?_,HO.setCell (.inl rfl) _⟩;have hs:=HB.set (o+0) (.int .u8 (v%256));rw [show lay l o ((le 2 v).take 1)=(lay l o ((le 2 v).take 0)).set (o+0) (.int .u8 (v%256)) from (by
      have:=KS l o ((le 2 v).take 0) (v%256) (by rw [List.length_take,J7];omega)
      simp only [le2,List.take_succ_cons,List.take_zero,List.length_cons,List.length_nil,List.cons_append,List.nil_append,Nat.zero_add,Nat.reduceAdd] at this ⊢
      exact this.symm)]
     first|exact hs|simpa using hs|(rw [show v/16777216%256=v/16777216 by omega] at hs ⊢;exact hs)
  · have hcell:=hb1.cell (Qh (k:=o+1) ho (by rw [List.length_take,J7];omega) (by omega));have hfro:=hb1.frozen (o+1);have HB:=Zh hb1;have HO:=Zh hon;clear hb1 hon
    go_wp2_with fail
    go_roundg (2-2)
    case measure=>omega
    case rel =>
     refine⟨2,by omega,by omega,by go_num,?_,HO.setCell (.inl rfl) _⟩;have hs:=HB.set (o+1) (.int .u8 (v/256%256));rw [show lay l o ((le 2 v).take 2)=(lay l o ((le 2 v).take 1)).set (o+1) (.int .u8 (v/256%256)) from (by
      have:=KS l o ((le 2 v).take 1) (v/256%256) (by rw [List.length_take,J7];omega)
      simp only [le2,List.take_succ_cons,List.take_zero,List.length_cons,List.length_nil,List.cons_append,List.nil_append,Nat.zero_add,Nat.reduceAdd] at this ⊢
      exact this.symm)]
     first|exact hs|simpa using hs|(rw [show v/16777216%256=v/16777216 by omega] at hs ⊢;exact hs)
  · have HB:=Zh hb1;have HO:=Zh hon;clear hb1 hon
    go_wp2_with fail
    go_end0
    exact⟨rfl,by simpa [le2] using HB.out,HO.out⟩
theorem kJ(w:World)(g i:Nat)(hi:i<8):Calls Tryz.prog 164 #[.pointer (some ⟨g,0,none⟩),.int .i64 i] w fun e w'=>e=.returned (.slice (some ⟨g,6+2*i,none⟩) 2 (64-(6+2*i)))∧w=w':=by
 rcases (show i=0∨i=1∨i=2∨i=3∨i=4∨i=5∨i=6∨i=7 by omega) with rfl|rfl|rfl|rfl|rfl|rfl|rfl|rfl
 all_goals
  go_enter Tryz.func164,Tryz.ntmps164
  go_wp2_with fail
  go_ret;exact⟨rfl,rfl⟩
section
variable {P:Program}
theorem Jo(v:Value)(w':World)(hw:Region.wanted o (yielded ops a.tmps)=true)(hr:(execOp a.eval o).run P w=.ok (.value v) w')(h:wpList P ops Q rest (a.put o.dst v) w'):wpList P ops Q (o::rest) a w :=
 J0 hw fun K hK=>by
  unfold Oper.wp;rw [hr];exact hK _ _ h
structure Stop (p:Prop):Prop where
 go:p
theorem JO{id:Nat}{d:Bool}(h:Stop ((Code.region id ops d).wp P Q a w)):(Code.region id ops d).wp P Q a w:=h.go
theorem J7x(v:Value)(hw:Region.wanted o (yielded ops a.tmps)=true)(hr:(execOp a.eval o).run P w=.ok (.value v) w)(h:wpList P ops Q rest (a.put o.dst v) w):wpList P ops Q (o::rest) a w:=Jo v w hw hr h
theorem Jiu(hw:Region.wanted o (yielded ops a.tmps)=false)(h:wpList P ops Q rest (a.put o.dst undef) w):wpList P ops Q (o::rest) a w:=wpList_step fun K hK=>by rw [if_neg (by simp [hw])];exact hK _ _ h
theorem Xy(w':World)(hw:Region.wanted o (yielded ops a.tmps)=true)(hr:(execOp a.eval o).run P w=.ok .skip w')(h:wpList P ops Q rest (a.put o.dst undef) w'):wpList P ops Q (o::rest) a w :=
 J0 hw fun K hK=>by
  unfold Oper.wp;rw [hr];exact hK _ _ h
theorem JB(w:World)(ev:Operand→Value)(o:Oper)(t:TypeId)(ho:o.op=.alloc t)(cs:Array Value)(hz:(P.info? t).bind (·.zero)=some (.agg cs)) :
 (execOp ev o).run P w=.ok (.value (.pointer (some ⟨w.heap.size,0,none⟩))) (w.alloc (.cells cs t)):=by
 cases hq:P.info? t with
 | none=>simp [hq] at hz
 | some i =>
  have hz':i.zero=some (.agg cs):=by simpa [hq] using hz
  unfold execOp;simp [ho,Instr.alloc,zeroValue,typeInfo,hq,hz',newVar,newRow,Value.cells]
theorem J8(w w':World)(ev:Operand→Value)(o:Oper)(t:TypeId)(parts:Array (Nat×Operand))(ho:o.op=.build t parts)(vals:Array (Nat×Value))(hp:parts.map (fun x=>(x.1,ev x.2))=vals)(v:Value)(hr:(Instr.build t vals).run P w=.ok v w'):(execOp ev o).run P w=.ok (.value v) w':=by
 unfold execOp;simp only [ho,Sem.run_bind,hp,hr,Result.andThen_ok,Sem.run_pure]
theorem JS(w w':World)(ev:Operand→Value)(o:Oper)(t:TypeId)(n:Nat)(parts:Array (Nat×Operand))(ho:o.op=.buildSlice t n parts)(vals:Array (Nat×Value))(hp:parts.map (fun x=>(x.1,ev x.2))=vals)(v:Value)(hr:(Instr.buildSlice t n vals).run P w=.ok v w'):(execOp ev o).run P w=.ok (.value v) w':=by
 unfold execOp;simp only [ho,Sem.run_bind,hp,hr,Result.andThen_ok,Sem.run_pure]
theorem Jl{S:World→Prop}(i:Nat){oi:Oper}(dst:Option Tmp)(v:Value)(hi:ops[i]? = some oi)(hd:oi.dst=dst)(hs:Region.noSelect ops=true)(hf:Region.free md ops listed i=true)(hr:(Region.ready md ops listed).contains i=true)(hQ:∀c a w,Q (.panic c) (a.put dst v) w→Q (.panic c) a w)(hw:Region.wanted oi (yielded ops a.tmps)=true)(hy:∀w,S w→(execOp a.eval oi).run P w=.ok (.value v) w)(hS:S w)(h:wpAnyH P md ops Q S fuel (listed.setIfInBounds i true) (a.put dst v) w):wpAnyH P md ops Q S (fuel+1) listed a w:=by
 subst hd;exact wpAnyH_take hi hs hf hr hQ (.inl ⟨hw,hy⟩) hS h
theorem Jiv{S:World→Prop}(i:Nat)(hr:Region.ready md ops listed=[i])(hi:ops[i]? = some o)(hw:Region.wanted o (yielded ops a.tmps)=true)(h:∀K:Act→World→Prop,(∀a w,S w→wpAnyH P md ops Q S fuel (listed.setIfInBounds i true) a w→K a w)→Oper.wp P o a w K Q):wpAnyH P md ops Q S (fuel+1) listed a w :=
 wpAnyH_all hr (by simp) fun j hj=>by
  rw [List.mem_singleton.1 hj];exact wpOp_step hi fun K hK=>by rw [if_pos hw];exact h K fun a w hS hA=>hK a w ⟨hS,hA⟩
theorem Zo{P:Program}{ops:Array Oper}{md:Region.Mode}{Q:Exit→Act→World→Prop}{S:World→Prop}{fuel:Nat}{listed:Array Bool}{a:Act}{w:World}(i:Nat){o:Oper}(h:∀K:Act→World→Prop,(∀a w,S w→wpAnyH P md ops Q S fuel (listed.setIfInBounds i true) a w→K a w)→Oper.wp P o a w K Q)(hr:Region.ready md ops listed=[i]:=by kernel_rfl)(hi:ops[i]? = some o:=by rfl)(hw:Region.wanted o (yielded ops a.tmps)=true:=by rfl):wpAnyH P md ops Q S (fuel+1) listed a w:=Jiv i hr hi hw h
theorem Zd{P:Program}{ops:Array Oper}{Q:Exit→Act→World→Prop}{md:Region.Mode}{S:World→Prop}{listed:Array Bool}{a:Act}{w:World}{fuel:Nat}(h:Q .normal a w)(hr:Region.ready md ops listed=[]:=by kernel_rfl):wpAnyH P md ops Q S fuel listed a w:=wpAnyH_done hr h _
theorem J9(S:World→Prop){id:Nat}(hm:P.follows .mixedOrders=true)(h:wpAnyH P .any ops Q S ops.size (Array.replicate ops.size false) a w.drew):(Code.region id ops true).wp P Q a w:=wp_region_held (S:=S) hm h
end
theorem Jk(h:Below W.heap.size W w)(hb:Below w.heap.size w w1):Below W.heap.size W w1:=h.trans (hb.mono h.size)
theorem Qn{a:World}(h:Below B a w)(n:Nat):Below B a (w.drewN n):=⟨h.os,h.tape,h.output,h.size,h.block⟩
abbrev u8s(l:List Int):List Value:=l.map (Value.int .u8)
abbrev Jq(l:List Int):List Value:=l.map (Value.int .i64)
def At(w:World)(g off:Nat)(cs:Array Value):Prop:=∀j (h:j<cs.size),w.cell? ⟨g,off+j,none⟩=some cs[j]
theorem Jiw:(Tryz.prog.info? 5).map (fun i=>(i.zero,i.size,i.bytes))=some (some (.int .u8 0),1,1):=by kernel_rfl
theorem J3r:(Tryz.prog.info? 3).map (·.size)=some 1:=by kernel_rfl
theorem Xb:(Tryz.prog.info? 5).map (·.size)=some 1:=by kernel_rfl
theorem Jgs:(Tryz.prog.info? 54).map (·.size)=some 8:=by kernel_rfl
theorem Kl:(Tryz.prog.info? 43).map (·.size)=some 32:=by kernel_rfl
theorem Kc:(Tryz.prog.info? 82).map (·.size)=some 45:=by kernel_rfl
theorem info36:(Tryz.prog.info? 36).map (·.size)=some 64:=by kernel_rfl
theorem KV(h:(Tryz.prog.info? t).map (·.size)=some n):∃i,Tryz.prog.info? t=some i∧i.size=n:=by
 cases hq:Tryz.prog.info? t with
 | none=>simp [hq] at h
 | some i=>exact⟨i,rfl,by simpa [hq] using h⟩
theorem Kd:(Tryz.prog.info? 36).bind (·.zero)=some (.agg (u8s (zeros 64)).toArray):=by kernel_rfl
theorem Jcw:Tryz.prog.built 43 []=some (u8s (zeros 32)).toArray:=by kernel_rfl
theorem QS(w:World):(Instr.build 43 #[]).run Tryz.prog w=.ok (.agg (u8s (zeros 32)).toArray) w:=run_build w 43 _ _ Jcw
theorem Jcx:Tryz.prog.built 54 []=some (Jq (zeros 8)).toArray:=by kernel_rfl
theorem kq(w:World):(Instr.build 54 #[]).run Tryz.prog w=.ok (.agg (Jq (zeros 8)).toArray) w:=run_build w 54 _ _ Jcx
theorem built36:Tryz.prog.built 36 []=some (u8s (zeros 64)).toArray:=by kernel_rfl
theorem build36(w:World):(Instr.build 36 #[]).run Tryz.prog w=.ok (.agg (u8s (zeros 64)).toArray) w:=run_build w 36 _ _ built36
theorem JW(l:List Value)(cs:Array Value)(h:l.length=cs.size):Jt l 0 cs=cs:=by
 unfold Jt;rw [List.take_zero,List.drop_of_length_le (by omega)];simp
theorem Blk.all{l:List Value}(h:Blk w g l)(e:l=cs.toList):At w g 0 cs:=fun j hj=>h.cell (by subst e;simp [hj])
section
variable {ops:Array Oper} {rest:List Oper} {dst:Option Tmp} {x:Operand} {t2:TypeId} {pos:String} {after:Array Edge} {guard:Option (Nat×Bool)} {a:Act} {w:World} {Q:Exit→Act→World→Prop}
theorem XI{off:Nat}(hA:At w g off cs)(hs:cs.size=8)(hx:a.eval x=.pointer (some ⟨g,off,none⟩))(hw:Region.wanted ⟨dst,.load 54 x,t2,pos,after,guard⟩ (yielded ops a.tmps)=true)(h:wpList Tryz.prog ops Q rest (a.put dst (.agg cs)) w):wpList Tryz.prog ops Q (⟨dst,.load 54 x,t2,pos,after,guard⟩::rest) a w :=
 Jc hw 54 x rfl g off hx cs _ Tryz.underlying54 rfl (by rw [hs];exact Jgs) hA h
theorem KX{off:Nat}(hA:At w g off cs)(hs:cs.size=32)(hx:a.eval x=.pointer (some ⟨g,off,none⟩))(hw:Region.wanted ⟨dst,.load 43 x,t2,pos,after,guard⟩ (yielded ops a.tmps)=true)(h:wpList Tryz.prog ops Q rest (a.put dst (.agg cs)) w):wpList Tryz.prog ops Q (⟨dst,.load 43 x,t2,pos,after,guard⟩::rest) a w :=
 Jc hw 43 x rfl g off hx cs _ Tryz.underlying43 rfl (by rw [hs];exact Kl) hA h
theorem JJ{off:Nat}(hA:At w g off cs)(hs:cs.size=45)(hx:a.eval x=.pointer (some ⟨g,off,none⟩))(hw:Region.wanted ⟨dst,.load 82 x,t2,pos,after,guard⟩ (yielded ops a.tmps)=true)(h:wpList Tryz.prog ops Q rest (a.put dst (.agg cs)) w):wpList Tryz.prog ops Q (⟨dst,.load 82 x,t2,pos,after,guard⟩::rest) a w :=
 Jc hw 82 x rfl g off hx cs _ Tryz.underlying82 rfl (by rw [hs];exact Kc) hA h
theorem Qc{off:Nat}(hA:At w g off cs)(hs:cs.size=64)(hx:a.eval x=.pointer (some ⟨g,off,none⟩))(hw:Region.wanted ⟨dst,.load 36 x,t2,pos,after,guard⟩ (yielded ops a.tmps)=true)(h:wpList Tryz.prog ops Q rest (a.put dst (.agg cs)) w):wpList Tryz.prog ops Q (⟨dst,.load 36 x,t2,pos,after,guard⟩::rest) a w :=
 Jc hw 36 x rfl g off hx cs _ Tryz.underlying36 rfl (by rw [hs];exact info36) hA h
theorem JV(hx:a.eval x=.agg cs)(hw:Region.wanted ⟨dst,.box t x,t2,pos,after,guard⟩ (yielded ops a.tmps)=true)(h:∀wX,Blk wX w.heap.size cs.toList→Below w.heap.size w wX→w.heap.size<wX.heap.size→wpList Tryz.prog ops Q rest (a.put dst (.pointer (some ⟨w.heap.size,0,none⟩))) wX):wpList Tryz.prog ops Q (⟨dst,.box t x,t2,pos,after,guard⟩::rest) a w:=by
 refine J0 hw fun K hK=>?_;unfold Oper.wp execOp;simp only [hx,Value.cells,Sem.run_bind,Instr.box,newVar,newRow,run_newObj_alloc,Sem.run_pure,Result.andThen_ok];exact hK _ _ (h _ (Blk.new w cs t) (Zq.alloc Zy _) (by simp))
theorem J4(hz:(Tryz.prog.info? t).bind (·.zero)=some (.agg cs))(hw:Region.wanted ⟨dst,.alloc t,t2,pos,after,guard⟩ (yielded ops a.tmps)=true)(h:∀wX,Blk wX w.heap.size cs.toList→Below w.heap.size w wX→w.heap.size<wX.heap.size→wpList Tryz.prog ops Q rest (a.put dst (.pointer (some ⟨w.heap.size,0,none⟩))) wX):wpList Tryz.prog ops Q (⟨dst,.alloc t,t2,pos,after,guard⟩::rest) a w :=
 Jo _ _ hw (JB _ _ _ t rfl cs hz) (h _ (Blk.new w cs t) (Zq.alloc Zy _) (by simp))
theorem ZD{off:Nat}{l:List Value}(hb:Blk w g l)(hi:(Tryz.prog.info? t).map (·.size)=some cs.size)(hfit:off+cs.size≤l.length)(h1:∀v∈cs,v.oneCell'=true)(hx:a.eval x=.pointer (some ⟨g,off,none⟩))(hy:a.eval y=.agg cs)(hw:Region.wanted ⟨dst,.store t x y,t2,pos,after,guard⟩ (yielded ops a.tmps)=true)(h:∀wX,Blk wX g (Jt l off cs).toList→Only (fun k=>k=g) w wX→wX.heap.size=w.heap.size→wpList Tryz.prog ops Q rest (a.put dst undef) wX):wpList Tryz.prog ops Q (⟨dst,.store t x y,t2,pos,after,guard⟩::rest) a w :=
 KC hw t x y rfl g off cs hx hy l hb hi hfit h1 (h _ (hb.row _) ((Only.refl (fun k=>k=g) w).setRow (.inl rfl) _) (by simp))
theorem J3{l:List Value}(hb:Blk w g l)(hl:l.length=cs.size)(hi:(Tryz.prog.info? t).map (·.size)=some cs.size)(h1:∀v∈cs,v.oneCell'=true)(hx:a.eval x=.pointer (some ⟨g,0,none⟩))(hy:a.eval y=.agg cs)(hw:Region.wanted ⟨dst,.store t x y,t2,pos,after,guard⟩ (yielded ops a.tmps)=true)(h:∀wX,Blk wX g cs.toList→Only (fun k=>k=g) w wX→wX.heap.size=w.heap.size→wpList Tryz.prog ops Q rest (a.put dst undef) wX):wpList Tryz.prog ops Q (⟨dst,.store t x y,t2,pos,after,guard⟩::rest) a w :=
 ZD hb hi (by omega) h1 hx hy hw (by rw [JW _ _ hl];exact h)
theorem Ji(hr:(Instr.build t #[]).run Tryz.prog w=.ok v w)(hw:Region.wanted ⟨dst,.build t #[],t2,pos,after,guard⟩ (yielded ops a.tmps)=true)(h:wpList Tryz.prog ops Q rest (a.put dst v) w):wpList Tryz.prog ops Q (⟨dst,.build t #[],t2,pos,after,guard⟩::rest) a w:=Jo v w hw (J8 w w a.eval _ t #[] rfl #[] (by simp) v hr) h
end
def Bk.cells(b:Bk)(sv:Value):List Value:=.int .i64 b.kind::.int .i64 b.id::(u8s b.page++(.int .i64 b.off::sv::.int .i64 b.prev::Jq b.heads))
def Bk.arr(b:Bk)(sv:Value):Array Value:=(b.cells sv).toArray
theorem Bk.cells_length{b:Bk}(h:b.Wf)(sv:Value):(b.cells sv).length=45:=by
 simp [Bk.cells,h.page,h.heads]
theorem Bk.arr_size{b:Bk}(h:b.Wf)(sv:Value):(b.arr sv).size=45:=by
 simpa [Bk.arr] using b.cells_length h sv
theorem Bk.at0(b:Bk)(sv:Value):(b.cells sv)[0]? = some (.int .i64 b.kind):=rfl
theorem Bk.at1(b:Bk)(sv:Value):(b.cells sv)[1]? = some (.int .i64 b.id):=rfl
theorem Bk.at_tail{b:Bk}(h:b.Wf)(sv:Value)(k:Nat):(b.cells sv)[34+k]? = (.int .i64 b.off::sv::.int .i64 b.prev::Jq b.heads)[k]? := by
 unfold Bk.cells;rw [show 34+k=(32+k)+1+1 by omega];simp only [List.getElem?_cons_succ];rw [List.getElem?_append_right (by simp [h.page])];simp only [List.length_map,h.page];congr 1;omega
theorem Bk.at34{b:Bk}(h:b.Wf)(sv:Value):(b.cells sv)[34]? = some (.int .i64 b.off):=b.at_tail h sv 0
theorem Bk.at35{b:Bk}(h:b.Wf)(sv:Value):(b.cells sv)[35]? = some sv:=b.at_tail h sv 1
theorem Bk.at36{b:Bk}(h:b.Wf)(sv:Value):(b.cells sv)[36]? = some (.int .i64 b.prev):=b.at_tail h sv 2
theorem Bk.atH{b:Bk}(h:b.Wf)(sv:Value)(k:Nat):(b.cells sv)[37+k]? = (Jq b.heads)[k]? := by
 have:=b.at_tail h sv (k+3)
 rwa [show 34+(k+3)=37+k by omega] at this
theorem Bk.atP{b:Bk}(h:b.Wf)(sv:Value)(k:Nat)(hk:k<32):(b.cells sv)[2+k]? = (u8s b.page)[k]? := by
 unfold Bk.cells;rw [show 2+k=k+1+1 by omega];simp only [List.getElem?_cons_succ];rw [List.getElem?_append_left (by simp [h.page];omega)]
structure BAt (w:World) (g:Nat) (b:Bk) (sv:Value):Prop where
 blk:Blk w g (b.cells sv)
 wf:b.Wf
theorem BAt.c0{b:Bk}(h:BAt w g b sv):w.cell? ⟨g,0,none⟩=some (.int .i64 b.kind):=h.blk.cell (b.at0 sv)
theorem BAt.c1{b:Bk}(h:BAt w g b sv):w.cell? ⟨g,1,none⟩=some (.int .i64 b.id):=h.blk.cell (b.at1 sv)
theorem BAt.c34{b:Bk}(h:BAt w g b sv):w.cell? ⟨g,34,none⟩=some (.int .i64 b.off):=h.blk.cell (b.at34 h.wf sv)
theorem BAt.c35{b:Bk}(h:BAt w g b sv):w.cell? ⟨g,35,none⟩=some sv:=h.blk.cell (b.at35 h.wf sv)
theorem BAt.c36{b:Bk}(h:BAt w g b sv):w.cell? ⟨g,36,none⟩=some (.int .i64 b.prev):=h.blk.cell (b.at36 h.wf sv)
theorem BAt.all{b:Bk}(h:BAt w g b sv):At w g 0 (b.arr sv):=fun j hj=>h.blk.cell (by simp only [Nat.zero_add,Bk.arr,List.getElem_toArray];exact List.getElem?_eq_getElem _)
theorem BAt.page{b:Bk}(h:BAt w g b sv):At w g 2 (u8s b.page).toArray:=fun j hj=>h.blk.cell (by
 rw [b.atP h.wf sv j (by simpa [h.wf.page] using hj)]
 simp only [List.getElem_toArray];exact List.getElem?_eq_getElem _)
theorem BAt.heads{b:Bk}(h:BAt w g b sv):At w g 37 (Jq b.heads).toArray:=fun j hj=>h.blk.cell (by
 rw [b.atH h.wf sv j]
 simp only [List.getElem_toArray];exact List.getElem?_eq_getElem _)
abbrev Bk.box(b:Bk)(sv:Value)(w:World):World:=w.alloc (.cells (b.arr sv) 82)
theorem BAt.box{b:Bk}(h:b.Wf)(sv:Value)(w:World):BAt (b.box sv w) w.heap.size b sv:=⟨by
 have:=Blk.new w (b.arr sv) 82
 rwa [show (b.arr sv).toList=b.cells sv from rfl] at this,h⟩
theorem box_below(b:Bk)(sv:Value)(w:World):Below w.heap.size w (b.box sv w):=Zq.alloc Zy _
theorem BAt.below{b:Bk}(h:BAt w g b sv)(hb:Below B w w')(hlt:g<B):BAt w' g b sv:=⟨h.blk.below hb hlt,h.wf⟩
theorem BAt.lt{b:Bk}(h:BAt w g b sv):g<w.heap.size:=h.blk.lt
def Len(sv:Value)(n:Nat):Prop:=∃a cap,sv=.slice a n cap
theorem ZE(a b:Int):(a == b)=decide (a=b):=by by_cases h:a=b <;> simp [h]
theorem Jcy(a b:Int):(a != b)=!decide (a=b):=by rw [bne,ZE]
theorem kK(b:Bk)(sv:Value)(hs:Len sv b.bytes.length)(hw:b.Wf)(w:World):Calls Tryz.prog 140 #[.agg (b.arr sv)] w (Zr w (.bool b.plain)):=by
 obtain⟨a,cap,hs⟩:=hs;have H:=BAt.box hw sv w;have c34:=H.c34;have c35:=H.c35.trans (congrArg some hs);have c36:=H.c36;clear H hs
 by_cases h1:b.off=0 <;> by_cases h2:b.bytes.length=0
 all_goals
  go_enter Tryz.func140,Tryz.ntmps140
  go_wp2_with fail
  go_ret;exact⟨Jb (by simp [Bk.plain,h1,h2,ZE]),box_below _ _ _⟩
theorem J7y(b:Bk)(sv:Value)(hs:Len sv b.bytes.length)(hw:b.Wf)(w:World):Calls Tryz.prog 138 #[.agg (b.arr sv)] w (Zr w (.bool b.diff)):=by
 obtain⟨a,cap,hs⟩:=hs;have H:=BAt.box hw sv w;have c34:=H.c34;have c35:=H.c35.trans (congrArg some hs);have c36:=H.c36;have H1:=Zh fun w=>Xa b.bytes.length 1 16 w;have H2:=Zh fun w=>Xa b.off 0 (32-b.bytes.length) w;have H3:=Zh fun w=>kI b.prev w;have hl:=hw.bytes;clear H hs;unfold Bk.diff;generalize hq1:within (↑b.bytes.length) 1 16=q1 at *;generalize hq2:within b.off 0 (32-↑b.bytes.length)=q2 at *;generalize hq3:K6 b.prev=q3 at *;clear hq1 hq2 hq3;go_enter Tryz.func138,Tryz.ntmps138
 go_wp2_with fail
 refine (H1.out _).mono ?_;rintro e w1 ⟨rfl,rfl⟩;cases q1
 · go_wp2_with fail
   go_ret;exact⟨rfl,box_below _ _ _⟩
 go_wp2_with fail
 refine (H2.out _).mono ?_;rintro e w1 ⟨rfl,rfl⟩;cases q2
 · go_wp2_with fail
   go_ret;exact⟨rfl,box_below _ _ _⟩
 go_wp2_with fail
 refine (H3.out _).mono ?_;rintro e w1 ⟨rfl,rfl⟩;cases q3
 · go_wp2_with fail
   go_ret;exact⟨rfl,box_below _ _ _⟩
 go_wp2_with fail
 go_ret;exact⟨Jb (by simp [Jcy]),box_below _ _ _⟩
theorem Jg6(w:World)(l m:List Int)(hl:l.length=8)(hm:m.length=8):(binOp .eql 54 (.agg (Jq l).toArray) (.agg (Jq m).toArray)).run Tryz.prog w=.ok (.bool (decide (l=m))) w:=by
 obtain⟨i,hi,hs⟩:=KV J3r;exact ZC w 54 3 8 .i64 .i64 i l m Tryz.underlying54 Tryz.underlying3 hi hs hl hm
theorem kr(w:World)(l:List Int)(hl:l.length=8)(j:Nat)(x:Int)(hx:l[j]? = some x):(Instr.index 54 (.agg (Jq l).toArray) (.int .i64 j)).run Tryz.prog w=.ok (.int .i64 x) w:=by
 obtain⟨i,hi,hs⟩:=KV J3r;exact Yo w 54 3 8 .i64 .i64 i l Tryz.underlying54 Tryz.underlying3 hi hs hl j x hx
theorem J7z(w:World)(l m:List Int)(hl:l.length=32)(hm:m.length=32):(binOp .eql 43 (.agg (u8s l).toArray) (.agg (u8s m).toArray)).run Tryz.prog w=.ok (.bool (decide (l=m))) w:=by
 obtain⟨i,hi,hs⟩:=KV Xb;exact ZC w 43 5 32 .u8 .u8 i l m Tryz.underlying43 Tryz.underlying5 hi hs hl hm
theorem Jg7(w:World)(l m:List Int)(hl:l.length=32)(hm:m.length=32):(binOp .neq 43 (.agg (u8s l).toArray) (.agg (u8s m).toArray)).run Tryz.prog w=.ok (.bool (!decide (l=m))) w:=by
 obtain⟨i,hi,hs⟩:=KV Xb;exact Y3 w 43 5 32 .u8 .u8 i l m Tryz.underlying43 Tryz.underlying5 hi hs hl hm
theorem xO(l:List Int)(hl:l.length=8)(w:World):Calls Tryz.prog 141 #[.agg (Jq l).toArray] w (Zr w (.bool (l.all K6))):=by
 obtain⟨x0,x1,x2,x3,x4,x5,x6,x7,rfl⟩:=yS l hl;have HI:=fun (j:Nat) (x:Int) (hx:[x0,x1,x2,x3,x4,x5,x6,x7][j]? = some x) (w:World)=>kr w [x0,x1,x2,x3,x4,x5,x6,x7] rfl j x hx;simp only [List.map_cons,List.map_nil] at HI ⊢;have HB:=Zh (show Below w.heap.size w (w.alloc (.cells #[.int .i64 x0,.int .i64 x1,.int .i64 x2,.int .i64 x3,.int .i64 x4,.int .i64 x5,.int .i64 x6,.int .i64 x7] 54)) from Zq.alloc Zy _);clear hl;go_enter Tryz.func141,Tryz.ntmps141
 go_wp2_with fail
 go_loopg [6] 8 (fun q i wr=>∃k:Nat,8-k≤q∧k≤8∧i=.int .i64 k∧(∀x∈[x0,x1,x2,x3,x4,x5,x6,x7].take k,K6 x=true)∧wr=w.alloc (.cells #[.int .i64 x0,.int .i64 x1,.int .i64 x2,.int .i64 x3,.int .i64 x4,.int .i64 x5,.int .i64 x6,.int .i64 x7] 54))
 case atStart=>exact⟨0,by omega,by omega,rfl,by simp,rfl⟩
 case round =>
  obtain⟨k,hg,hk,rfl,hall,rfl⟩:=hrel
  by_cases hlt:k<8
  · obtain⟨x,hx⟩:∃x,[x0,x1,x2,x3,x4,x5,x6,x7][k]? = some x:=⟨_,List.getElem?_eq_getElem (by simpa using hlt)⟩
    have h3:=HI k x hx;have H30:=Zh fun w=>kI x w;have HX:=Zh hx;have HALL:=Zh hall;clear HI hx hall;cases hh:K6 x
    · rw [hh] at H30
      go_wp2_with fail
      refine (H30.out _).mono ?_;rintro e w1 ⟨rfl,rfl⟩
      go_wp2_with fail
      go_ret;refine⟨Jb ?_,HB.out⟩;symm;rw [List.all_eq_false];exact⟨x,List.mem_of_getElem? HX.out,by simp [hh]⟩
    · rw [hh] at H30
      go_wp2_with fail
      refine (H30.out _).mono ?_;rintro e w1 ⟨rfl,rfl⟩
      go_wp2_with fail
      go_roundg (8-(k+1))
      case measure=>omega
      case rel =>
       refine⟨k+1,by omega,by omega,by go_num,?_,rfl⟩;intro y hy;rw [List.take_add_one,HX.out] at hy;rcases List.mem_append.1 hy with hy|hy
       · exact HALL.out y hy
       · simp at hy;rw [hy];exact hh
  · have HALL:=Zh hall;obtain rfl:k=8:=by omega
    clear HI hall
    go_wp2_with fail
    go_ret;refine⟨Jb ?_,HB.out⟩;have h:=HALL.out;rw [List.take_of_length_le (by simp)] at h;symm;exact List.all_eq_true.2 h
def Bk.strip(b:Bk):Bk:={ b with off:=0,bytes:=[],prev:=0 }
theorem K7:Jh 0:=⟨by decide,by decide⟩
theorem Bk.strip_wf{b:Bk}(h:b.Wf):b.strip.Wf :=
 { h with off:=K7,prev:=K7,bytes:=Nat.zero_le _,bytess:=fun _ h=>by cases h }
theorem BAt.strip{b:Bk}(h:BAt w g b sv):BAt (((w.setCell ⟨g,34,none⟩ (.int .i64 0)).setCell ⟨g,35,none⟩ (.slice none 0 0)).setCell ⟨g,36,none⟩ (.int .i64 0)) g b.strip (.slice none 0 0):=by
 refine⟨?_,b.strip_wf h.wf⟩;have:=((h.blk.set 34 (.int .i64 0)).set 35 (.slice none 0 0)).set 36 (.int .i64 0);have e:(((b.cells sv).set 34 (.int .i64 0)).set 35 (.slice none 0 0)).set 36 (.int .i64 0)=b.strip.cells (.slice none 0 0):=by
  unfold Bk.cells Bk.strip;simp only [List.set_cons_succ];rw [List.set_append_right _ _ (by simp [h.wf.page]),List.set_append_right _ _ (by simp [h.wf.page]),List.set_append_right _ _ (by simp [h.wf.page])];simp [h.wf.page]
 rwa [e] at this
theorem nm{G G':Prop}(h:G')(k:G'→G:=by intro h;(try simp only [Act.put,List.setIfInBounds_toArray,List.set_cons_succ,List.set_cons_zero]);exact h):G:=k h
theorem tk(v:Value){G:Prop}(h:G)(hw:Region.wanted o (yielded ops a.tmps)=true:=by rfl)(hr:(execOp a.eval o).run P w=.ok (.value v) w:=by go_simp)(k:G→wpList P ops Q rest (a.put o.dst v) w:=by intro h;(try simp only [Act.put,List.setIfInBounds_toArray,List.set_cons_succ,List.set_cons_zero]);exact h):wpList P ops Q (o::rest) a w:=J7x v hw hr (k h)
theorem ps{G:Prop}(h:G)(hw:Region.wanted o (yielded ops a.tmps)=false:=by rfl)(k:G→wpList P ops Q rest (a.put o.dst undef) w:=by intro h;(try simp only [Act.put,List.setIfInBounds_toArray,List.set_cons_succ,List.set_cons_zero]);exact h):wpList P ops Q (o::rest) a w:=Jiu hw (k h)
section
variable {P:Program} {ops:Array Oper} {md:Region.Mode} {Q:Exit→Act→World→Prop} {S:World→Prop} {fuel:Nat} {listed:Array Bool} {a:Act} {w:World}
theorem th(i:Nat){oi:Oper}(d:Tmp)(v:Value)(hS:S w){G:Prop}(h:G)(hi:ops[i]? = some oi:=by rfl)(hd:oi.dst=some d:=by rfl)(hs:Region.noSelect ops=true:=by kernel_rfl)(hf:Region.free md ops listed i=true:=by kernel_rfl)(hr:(Region.ready md ops listed).contains i=true:=by kernel_rfl)(hQ:∀c a w,Q (.panic c) (a.put (some d) v) w→Q (.panic c) a w:=by exact fun _ _ _ h=>h)(hw:Region.wanted oi (yielded ops a.tmps)=true:=by rfl)(hy:∀w,S w→(execOp a.eval oi).run P w=.ok (.value v) w:=by intro wq hS;go_simp)(k:G→wpAnyH P md ops Q S fuel (listed.setIfInBounds i true) (a.put (some d) v) w:=by intro h;(try simp only [Act.put,List.setIfInBounds_toArray,List.set_cons_succ,List.set_cons_zero]);exact h):wpAnyH P md ops Q S (fuel+1) listed a w :=
 Jl i (some d) v hi hd hs hf hr hQ hw hy hS (k h)
theorem ph0(i:Nat){oi:Oper}(dst:Option Tmp)(hi:ops[i]? = some oi)(hd:oi.dst=dst)(hs:Region.noSelect ops=true)(hf:Region.free md ops listed i=true)(hr:(Region.ready md ops listed).contains i=true)(hQ:∀c a w,Q (.panic c) (a.put dst undef) w→Q (.panic c) a w)(hw:Region.wanted oi (yielded ops a.tmps)=false)(hS:S w)(h:wpAnyH P md ops Q S fuel (listed.setIfInBounds i true) (a.put dst undef) w):wpAnyH P md ops Q S (fuel+1) listed a w:=by
 subst hd;exact wpAnyH_take hi hs hf hr hQ (.inr ⟨hw,rfl⟩) hS h
theorem ph(i:Nat){oi:Oper}(d:Tmp)(hS:S w){G:Prop}(h:G)(hi:ops[i]? = some oi:=by rfl)(hd:oi.dst=some d:=by rfl)(hs:Region.noSelect ops=true:=by kernel_rfl)(hf:Region.free md ops listed i=true:=by kernel_rfl)(hr:(Region.ready md ops listed).contains i=true:=by kernel_rfl)(hQ:∀c a w,Q (.panic c) (a.put (some d) undef) w→Q (.panic c) a w:=by exact fun _ _ _ h=>h)(hw:Region.wanted oi (yielded ops a.tmps)=false:=by rfl)(k:G→wpAnyH P md ops Q S fuel (listed.setIfInBounds i true) (a.put (some d) undef) w:=by intro h;(try simp only [Act.put,List.setIfInBounds_toArray,List.set_cons_succ,List.set_cons_zero]);exact h):wpAnyH P md ops Q S (fuel+1) listed a w :=
 ph0 i (some d) hi hd hs hf hr hQ hw hS (k h)
end
theorem QT(b:Bk)(sv:Value)(hs:Len sv b.bytes.length)(hw:b.Wf)(w:World):Calls Tryz.prog 112 #[.agg (b.arr sv)] w (Zr w (.bool b.good)):=by
 have HA:=Zh (BAt.box hw sv w);have HB:=Zh (box_below b sv w);have c0:=HA.c0;have c1:=HA.c1;have HS:=Zh (b.arr_size hw sv);have HS0:=HS;have HS0:=HS;have HS0:=HS;have HS0:=HS;have HHS:Hid ((Jq b.heads).toArray.size=8):=Zh (by simpa using hw.heads);have HPS:Hid ((u8s b.page).toArray.size=32):=Zh (by simpa using hw.page);have HE:=Zh fun w=>Jg6 w b.heads (zeros 8) hw.heads (J1 8);have HP:=Zh fun w=>J7z w b.page (zeros 32) hw.page (J1 32);have HPN:=Zh fun w=>Jg7 w b.page (zeros 32) hw.page (J1 32);have W63:=Zh fun w=>Xa b.id 0 63 w;have W7:=Zh fun w=>Xa b.id 0 7 w;have HN:=Zh fun w=>kK b sv hs hw w;have HD:=Zh fun w=>J7y b sv hs hw w;have HNS:=Zh fun w=>kK b.strip (.slice none 0 0) ⟨none,0,rfl⟩ (b.strip_wf hw) w;have HSS:=Zh (b.strip.arr_size (b.strip_wf hw) (.slice none 0 0));have HH:=Zh fun w=>xO b.heads hw.heads w;have hplain:b.strip.plain=true:=rfl;rw [hplain] at HNS;clear hplain hs hw;unfold Bk.good
 by_cases k1:b.kind=1
 · rw [if_pos k1];rw [k1] at c0;clear k1 HP HPN W7 HD HNS HSS HH HPS;generalize within b.id 0 63=q1 at *;generalize b.plain=q2 at *;generalize decide (b.heads=zeros 8)=q3 at *;go_enter Tryz.func112,Tryz.ntmps112
   go_wp2_with fail
   refine (W63.out _).mono ?_;rintro e w1 ⟨rfl,rfl⟩;cases q1
   · go_wp2_with fail
     go_ret;exact⟨rfl,HB.out⟩
   simp only [];cases q2
   · skip
     refine (‹∀(a:Act) (w:World),wpList Tryz.prog _ _ _ a w→_› _ _ ?_);refine tk (.bool true) ?_;refine JJ HA.all HS.out rfl rfl ?_;refine nm ?_;refine J0 rfl fun K hK=>?_;go_simp;refine (HN.out _).mono ?_;rintro e w2 ⟨rfl,hb⟩;have HA2:=Zh (HA.below hb HA.lt);have HB2:=Zh (HB.trans (hb.mono HB.size));clear hb;refine hK _ _ (nm ?_);clear hK K;refine tk (.bool false) ?_;refine tk (.bool false) ?_
     iterate 4 refine ps ?_
     refine tk (.bool false) ?_;refine tk (.bool false) ?_;go_wp2_with fail
     go_ret;exact⟨Jb (by simp),HB2.out⟩
   refine (‹∀(a:Act) (w:World),wpList Tryz.prog _ _ _ a w→_› _ _ ?_);refine tk (.bool true) ?_;refine JJ HA.all HS.out rfl rfl ?_;refine nm ?_;refine J0 rfl fun K hK=>?_;go_simp;refine (HN.out _).mono ?_;rintro e w2 ⟨rfl,hb⟩;have HA2:=Zh (HA.below hb HA.lt);have HB2:=Zh (HB.trans (hb.mono HB.size));clear hb;refine hK _ _ (nm ?_);clear hK K;refine tk (.bool true) ?_;refine tk (.bool true) ?_;refine tk (.pointer (some ⟨w.heap.size,37,none⟩)) ?_;refine XI (cs:=(Jq b.heads).toArray) HA2.heads HHS.out rfl rfl ?_;refine nm ?_;refine Ji (kq _) rfl ?_;refine nm ?_;refine tk (.bool q3) ?_ (hr:=by have he:=HE.out;go_simp);refine tk (.bool q3) ?_;refine tk (.bool q3) ?_;go_wp2_with fail
   go_ret;exact⟨Jb (by simp),HB2.out⟩
 · rw [if_neg k1]
   by_cases k2:b.kind=2
   · rw [if_pos k2];rw [k2] at c0;clear k1 k2 HP W7 HN HS HH;generalize within b.id 0 63=q1 at *;generalize b.diff=q2 at *;generalize decide (b.page=zeros 32)=q4 at *;generalize decide (b.heads=zeros 8)=q3 at *;go_enter Tryz.func112,Tryz.ntmps112
     repeat (first|(with_reducible refine JO (id:=5) ?_)|go_values|go_skip|go_guarded|go_step|go_upon|go_back)
     refine Stop.mk (wp_region_lit ?_);cases q2
     · skip
       refine JJ HA.all HS0.out rfl rfl ?_;refine nm ?_;refine J0 rfl fun K hK=>?_;go_simp;refine (HD.out _).mono ?_;rintro e w1 ⟨rfl,hb⟩;have HA1:=Zh (HA.below hb HA.lt);have HB1:=Zh (HB.trans (hb.mono HB.size));clear hb HA HB c0 c1;refine hK _ _ (nm ?_);clear hK K;refine tk (.bool true) ?_;refine tk (.bool true) ?_
       iterate 4 refine ps ?_
       refine tk (.bool true) ?_;go_wp2_with fail
       go_ret;exact⟨Jb (by simp),HB1.out⟩
     refine JJ HA.all HS0.out rfl rfl ?_;refine nm ?_;refine J0 rfl fun K hK=>?_;go_simp;refine (HD.out _).mono ?_;rintro e w1 ⟨rfl,hb⟩;have HA1:=Zh (HA.below hb HA.lt);have HB1:=Zh (HB.trans (hb.mono HB.size));clear hb HA HB c0 c1;refine hK _ _ (nm ?_);clear hK K;refine tk (.bool false) ?_;refine tk (.bool false) ?_;refine tk (.pointer (some ⟨w.heap.size,2,none⟩)) ?_;refine KX HA1.page HPS.out rfl rfl ?_;refine nm ?_;refine Ji (QS _) rfl ?_;refine nm ?_;refine tk (.bool (!q4)) ?_ (hr:=by have he:=HPN.out;go_simp);refine tk (.bool (!q4)) ?_;refine Zn ?_;cases q4
     · go_wp2_with fail
       go_ret;exact⟨Jb (by simp),HB1.out⟩
     have c34:=HA1.c34;have c35:=HA1.c35;have c36:=HA1.c36;have c1:=HA1.c1;have f34:=HA1.blk.frozen 34;have f35:=HA1.blk.frozen 35;have f36:=HA1.blk.frozen 36;have HA3:=Zh HA1.strip;have HB3:=Zh (((HB1.setCell (p:=⟨w.heap.size,34,none⟩) Zy (.int .i64 0)).setCell (p:=⟨w.heap.size,35,none⟩) Zy (.slice none 0 0)).setCell (p:=⟨w.heap.size,36,none⟩) Zy (.int .i64 0))
     go_wp2_with fail
     refine (W63.out _).mono ?_;rintro e w2 ⟨rfl,rfl⟩;cases q1
     · go_wp2_with fail
       go_ret;exact⟨Jb (by simp),HB3.out⟩
     simp only [];refine (‹∀(a:Act) (w:World),wpList Tryz.prog _ _ _ a w→_› _ _ ?_);refine tk (.bool true) ?_;refine JJ HA3.all HSS.out rfl rfl ?_;refine nm ?_;refine J0 rfl fun K hK=>?_;go_simp;refine (HNS.out _).mono ?_;rintro e w2 ⟨rfl,hb⟩;have HA2:=Zh (HA3.below hb HA3.lt);have HB2:=Zh (HB3.trans (hb.mono HB3.size));clear hb;refine hK _ _ (nm ?_);clear hK K;refine tk (.bool true) ?_;refine tk (.bool true) ?_;refine tk (.pointer (some ⟨w.heap.size,37,none⟩)) ?_;refine XI (cs:=(Jq b.heads).toArray) HA2.heads HHS.out rfl rfl ?_;refine nm ?_;refine Ji (kq _) rfl ?_;refine nm ?_;refine tk (.bool q3) ?_ (hr:=by have he:=HE.out;go_simp);refine tk (.bool q3) ?_;refine tk (.bool q3) ?_;go_wp2_with fail
     go_ret;exact⟨Jb (by simp),HB2.out⟩
   · rw [if_neg k2]
     by_cases k3:b.kind=3
     · rw [if_pos k3];rw [k3] at c0;clear k1 k2 k3 HPN W63 HE HNS HSS HD HS0;generalize within b.id 0 7=q1 at *;generalize b.heads.all K6=q2 at *;generalize b.plain=q3 at *;generalize decide (b.page=zeros 32)=q4 at *;go_enter Tryz.func112,Tryz.ntmps112
       go_wp2_with fail
       refine (W7.out _).mono ?_;rintro e w1 ⟨rfl,rfl⟩;cases q1
       · go_wp2_with fail
         go_ret;exact⟨rfl,HB.out⟩
       simp only [];cases q2
       · skip
         refine (‹∀(a:Act) (w:World),wpList Tryz.prog _ _ _ a w→_› _ _ ?_);refine tk (.bool true) ?_;refine tk (.pointer (some ⟨w.heap.size,37,none⟩)) ?_;refine XI (cs:=(Jq b.heads).toArray) HA.heads HHS.out rfl rfl ?_;refine nm ?_;refine J0 rfl fun K hK=>?_;go_simp;refine (HH.out _).mono ?_;rintro e w2 ⟨rfl,hb⟩;have HA2:=Zh (HA.below hb HA.lt);have HB2:=Zh (HB.trans (hb.mono HB.size));clear hb;refine hK _ _ (nm ?_);clear hK K;refine tk (.bool false) ?_;refine tk (.bool false) ?_
         iterate 2 refine ps ?_
         refine tk (.bool false) ?_;refine tk (.bool false) ?_
         iterate 4 refine ps ?_
         refine tk (.bool false) ?_;refine tk (.bool false) ?_;go_wp2_with fail
         go_ret;exact⟨Jb (by simp),HB2.out⟩
       cases q3
       · skip
         refine (‹∀(a:Act) (w:World),wpList Tryz.prog _ _ _ a w→_› _ _ ?_);refine tk (.bool true) ?_;refine tk (.pointer (some ⟨w.heap.size,37,none⟩)) ?_;refine XI (cs:=(Jq b.heads).toArray) HA.heads HHS.out rfl rfl ?_;refine nm ?_;refine J0 rfl fun K hK=>?_;go_simp;refine (HH.out _).mono ?_;rintro e w2 ⟨rfl,hb⟩;have HA2:=Zh (HA.below hb HA.lt);have HB2:=Zh (HB.trans (hb.mono HB.size));clear hb;refine hK _ _ (nm ?_);clear hK K;refine tk (.bool true) ?_;refine tk (.bool true) ?_;refine JJ HA2.all HS.out rfl rfl ?_;refine nm ?_;refine J0 rfl fun K hK=>?_;go_simp;refine (HN.out _).mono ?_;rintro e w3 ⟨rfl,hb⟩;have HA3:=Zh (HA2.below hb HA2.lt);have HB3:=Zh (HB2.trans (hb.mono HB2.size));clear hb;refine hK _ _ (nm ?_);clear hK K;refine tk (.bool false) ?_;refine tk (.bool false) ?_
         iterate 4 refine ps ?_
         refine tk (.bool false) ?_;refine tk (.bool false) ?_;go_wp2_with fail
         go_ret;exact⟨Jb (by simp),HB3.out⟩
       refine (‹∀(a:Act) (w:World),wpList Tryz.prog _ _ _ a w→_› _ _ ?_);refine tk (.bool true) ?_;refine tk (.pointer (some ⟨w.heap.size,37,none⟩)) ?_;refine XI (cs:=(Jq b.heads).toArray) HA.heads HHS.out rfl rfl ?_;refine nm ?_;refine J0 rfl fun K hK=>?_;go_simp;refine (HH.out _).mono ?_;rintro e w2 ⟨rfl,hb⟩;have HA2:=Zh (HA.below hb HA.lt);have HB2:=Zh (HB.trans (hb.mono HB.size));clear hb;refine hK _ _ (nm ?_);clear hK K;refine tk (.bool true) ?_;refine tk (.bool true) ?_;refine JJ HA2.all HS.out rfl rfl ?_;refine nm ?_;refine J0 rfl fun K hK=>?_;go_simp;refine (HN.out _).mono ?_;rintro e w3 ⟨rfl,hb⟩;have HA3:=Zh (HA2.below hb HA2.lt);have HB3:=Zh (HB2.trans (hb.mono HB2.size));clear hb;refine hK _ _ (nm ?_);clear hK K;refine tk (.bool true) ?_;refine tk (.bool true) ?_;refine tk (.pointer (some ⟨w.heap.size,2,none⟩)) ?_;refine KX HA3.page HPS.out rfl rfl ?_;refine nm ?_;refine Ji (QS _) rfl ?_;refine nm ?_;refine tk (.bool q4) ?_ (hr:=by have he:=HP.out;go_simp);refine tk (.bool q4) ?_;refine tk (.bool q4) ?_;go_wp2_with fail
       go_ret;exact⟨Jb (by simp),HB3.out⟩
     · rw [if_neg k3];clear HPN W63 HE HNS HSS HD HS0 W7 HP HH HN HHS HPS HS;go_enter Tryz.func112,Tryz.ntmps112
       go_wp2_with fail
       go_ret;exact⟨rfl,HB.out⟩
variable {B b c fuel g n:Nat} {K:Act→World→Prop} {P:Program} {Q:Exit→Act→World→Prop} {W w w':World} {a:Act} {l:List Int} {listed:Array Bool} {md:Region.Mode} {o:Oper} {ops:Array Oper} {sv:Value}
def BytesAt(w:World)(sv:Value)(l:List Int):Prop:=∃a cap,sv=.slice a l.length cap∧∀i x,l[i]? = some x→∃b o,a=some ⟨b,o,none⟩∧w.cell? ⟨b,o+i,none⟩=some (.int .u8 x)
theorem BytesAt.len(h:BytesAt w sv l):Len sv l.length:=let ⟨a,cap,h,_⟩:=h;⟨a,cap,h⟩
theorem BytesAt.below(h:BytesAt w sv l)(hb:Below w.heap.size w w'):BytesAt w' sv l:=by
 obtain⟨a,cap,e,hc⟩:=h;refine⟨a,cap,e,fun i x hx=>?_⟩;obtain⟨b,o,e2,hx2⟩:=hc i x hx;exact⟨b,o,e2,(hb.cell (block_lt_of_cell hx2)).trans hx2⟩
theorem BytesAt.nil(w:World)(cap:Nat)(a:Option Addr):BytesAt w (.slice a 0 cap) []:=⟨a,cap,rfl,fun i x h=>by simp at h⟩
theorem BytesAt.has(h:BytesAt w sv l)(hl:0<l.length):∃b o cap,sv=.slice (some ⟨b,o,none⟩) l.length cap∧∀i x,l[i]? = some x→w.cell? ⟨b,o+i,none⟩=some (.int .u8 x):=by
 obtain⟨a,cap,e,hc⟩:=h;obtain⟨b,o,e2,_⟩:=hc 0 l[0] (by simp [hl]);subst e2;refine⟨b,o,cap,e,fun i x hx=>?_⟩;obtain⟨b',o',e3,hx2⟩:=hc i x hx;cases e3;exact hx2
theorem BAt.page_at{b:Bk}(h:BAt w g b sv)(j:Nat)(v:Int)(hv:b.page[j]? = some v):w.cell? ⟨g,2+j,none⟩=some (.int .u8 v):=h.blk.cell (by
 rw [b.atP h.wf sv j (by have:=(Zg hv).1;rwa [h.wf.page] at this),List.getElem?_map,hv]
 rfl)
theorem yT{n:Int}(h0:0≤n)(h1:n<256):IntKind.u8.wrap n=n:=by rw [IntKind.wrap_u8];omega
theorem kL{n:Int}(h0:0≤n)(h1:n<4294967296):IntKind.u32.wrap n=n:=by rw [IntKind.wrap_u32];omega
theorem JQ{n:Int}(h0:0≤n)(h1:n<4294967296):IntKind.i64.wrap n=n:=by rw [IntKind.wrap_i64];omega
def JD(L:List Int)(o:Nat)(bs:List Int):List Int:=L.take o++bs++L.drop (o+bs.length)
theorem Qt(L:List Int)(o:Nat)(bs:List Int):lay (u8s L) o bs=u8s (JD L o bs):=by simp [lay,JD]
theorem Yp{L:List Int}{o:Nat}{bs:List Int}(h:o+bs.length≤L.length):(JD L o bs).length=L.length:=by
 simp [JD];omega
theorem J51{L:List Int}{o:Nat}{bs cs:List Int}(h:o+bs.length+cs.length≤L.length):JD (JD L o bs) (o+bs.length) cs=JD L o (bs++cs):=by
 have h1:(L.take o).length=o:=by simp;omega
 have h2:(L.take o++bs).length=o+bs.length:=by simp;omega
 unfold JD;rw [List.take_append_of_le_length (by omega),List.take_of_length_le (by omega),List.drop_append,List.drop_of_length_le (by omega),h2];simp only [List.nil_append,List.drop_drop,List.length_append,List.append_assoc];congr 4;omega
theorem Z6{H T bs:List Int}{o:Nat}(h:H.length=o):JD (H++T) o bs=H++(bs++T.drop bs.length):=by
 subst h;unfold JD;rw [List.take_left',List.drop_append,List.drop_of_length_le (by omega)]
 · simp
 · rfl
theorem Z7(n m:Nat):(zeros n).drop m=zeros (n-m):=by simp [zeros]
theorem J52(n m:Nat):zeros (n+m)=zeros n++zeros m:=by simp [zeros]
theorem J0y(i n off prev:Int)(l:List Int)(h:l.length≤16):JD (JD (((JD (2::i::zeros 62) 2 (le 4 n)).set 6 off).set 7 l.length) 8 l) 24 (le 2 prev) =
 2::i::(le 4 n++(off::l.length::(l++(zeros (16-l.length)++(le 2 prev++zeros 38))))):=by
 have e:((JD (2::i::zeros 62) 2 (le 4 n)).set 6 off).set 7 l.length=([2,i,n%256,n/256%256,n/256/256%256,n/256/256/256%256,off,l.length]:List Int)++zeros 56:=by simp [JD,le,zeros]
 rw [e,Z6 (o:=8) (by rfl),Z7,show 56-l.length=(16-l.length)+40 by omega,J52,←List.append_assoc l,←List.append_assoc _ _ (zeros 40),Z6 (o:=24) (by simp [zeros];omega),Z7,J7];simp [le]
theorem J80(L:List Int)(o:Nat):JD L o []=L:=by simp [JD]
structure ES (W w:World) (g r:Nat) (b:Bk) (sv:Value):Prop where
 bat:BAt w g b sv
 res:Blk w r (u8s (zeros 64))
 bel:Below W.heap.size W w
 g0:W.heap.size≤g
 gr:g<r
theorem ES.below{r:Nat}{b:Bk}(h:ES W w g r b sv)(hb:Below w.heap.size w w'):ES W w' g r b sv :=
 ⟨h.bat.below hb h.bat.lt,h.res.below hb h.res.lt,h.bel.trans (hb.mono h.bel.size),h.g0,h.gr⟩
structure ET (W w:World) (g r s:Nat) (b:Bk) (sv:Value) (L:List Int):Prop where
 es:ES W w g r b sv
 sec:Blk w s (u8s L)
 rs:r<s
theorem ET.below{r s:Nat}{b:Bk}{L:List Int}(h:ET W w g r s b sv L)(hb:Below w.heap.size w w'):ET W w' g r s b sv L :=
 ⟨h.es.below hb,h.sec.below hb h.sec.lt,h.rs⟩
theorem ET.drew{r s:Nat}{b:Bk}{L:List Int}(h:ET W w g r s b sv L):ET W w.drew g r s b sv L:=h.below Zq.drew
theorem ET.put{r s:Nat}{b:Bk}{L M:List Int}(h:ET W w g r s b sv L)(hs:Blk w' s (u8s M))(ho:Only (fun k=>k=s) w w'):ET W w' g r s b sv M :=
 ⟨⟨⟨h.es.bat.blk.only ho (by have:=h.rs;have:=h.es.gr;omega),h.es.bat.wf⟩,h.es.res.only ho (by have:=h.rs;omega),h.es.bel.trans (ho.below h.es.bel.size (fun k hk=>by have:=h.es.g0;have:=h.es.gr;have:=h.rs;omega)),h.es.g0,h.es.gr⟩,hs,h.rs⟩
theorem ET.set{r s:Nat}{b:Bk}{L:List Int}(h:ET W w g r s b sv L)(i:Nat)(x:Int):ET W (w.setCell ⟨s,i,none⟩ (.int .u8 x)) g r s b sv (L.set i x) :=
 h.put (by have:=h.sec.set i (.int .u8 x);rwa [←List.map_set] at this) ((Only.refl (fun k=>k=s) w).setCell (p:=⟨s,i,none⟩) (.inl rfl) _)
section
variable {P:Program}
theorem J81(v:Value)(w':World)(hr:(execOp a.eval o).run P w=.ok (.value v) w')(h:K (a.put o.dst v) w'):o.wp P a w K Q:=by
 unfold Oper.wp;rw [hr];exact h
theorem J53(w:World)(ev:Operand→Value)(op:Oper)(x y:Operand)(ho:op.op=.call { callee:=.builtin .copy,args:=#[x,y],argTypes:=#[80,80] })(hu:P.underlying 80=some (.slice 5))(hs:(P.info? 5).map (·.size)=some 1)(g o dLen dCap:Nat)(ab ao sLen sCap:Nat)(hx:ev x=.slice (some ⟨g,o,none⟩) dLen dCap)(hy:ev y=.slice (some ⟨ab,ao,none⟩) sLen sCap)(L:List Value)(l:List Int)(hg:Blk w g L)(hn:l.length=Nat.min sLen dLen)(hsrc:∀j v,l[j]? = some v→w.cell? ⟨ab,ao+j,none⟩=some (.int .u8 v))(hfit:o+l.length≤L.length) :
 ∃w',(execOp ev op).run P w=.ok (.value (goInt l.length)) w'∧Blk w' g (lay L o l)∧Only (fun k=>k=g) w w':=by
 have hg':=hg;obtain⟨t,ht⟩:=hg;refine⟨w.setRow g (lay L o l).toArray,?_,?_,?_⟩
 · unfold execOp;have:=run_copy_row P w 80 80 op.type 5 g o dLen dCap ⟨ab,ao,none⟩ sLen sCap L.toArray t (l.map (Value.int .u8)) hu hs ht (by simpa using hn) (fun j v hv=>by
    rw [List.getElem?_map] at hv
    cases e:l[j]? with
    | none=>simp [e] at hv
    | some z =>
     simp [e] at hv
     subst hv
     have:=hsrc j z e
     rwa [show (⟨ab,ao,none⟩:Addr).add j=⟨ab,ao+j,none⟩ by unfold Addr.add;split <;> simp_all]) (by simpa using hfit) (fun v hv=>by
    obtain⟨z,_,rfl⟩:=List.mem_map.1 hv
    rfl)
   simp only [ho,resolve,invoke,builtin,Sem.run_bind,Sem.run_pure,Result.andThen_ok,List.map_toArray,List.map_cons,List.map_nil,hx,hy,this];simp [lay]
 · exact hg'.row _
 · exact (Only.refl (fun k=>k=g) w).setRow (.inl rfl) _
theorem ZF{op:Oper}(x y:Operand)(ho:op.op=.call { callee:=.builtin .copy,args:=#[x,y],argTypes:=#[80,80] })(hu:P.underlying 80=some (.slice 5))(hs:(P.info? 5).map (·.size)=some 1)(g o dLen dCap:Nat)(ab ao sLen sCap:Nat)(hx:a.eval x=.slice (some ⟨g,o,none⟩) dLen dCap)(hy:a.eval y=.slice (some ⟨ab,ao,none⟩) sLen sCap)(L:List Value)(l:List Int)(hg:Blk w g L)(hn:l.length=Nat.min sLen dLen)(hsrc:∀j v,l[j]? = some v→w.cell? ⟨ab,ao+j,none⟩=some (.int .u8 v))(hfit:o+l.length≤L.length)(dst:Option Tmp)(hd:op.dst=dst)(h:∀w',Blk w' g (lay L o l)→Only (fun k=>k=g) w w'→K (a.put dst (.int .i64 l.length)) w'):op.wp P a w K Q:=by
 subst hd;obtain⟨w',hr,hb,hO⟩:=J53 w a.eval op x y ho hu hs g o dLen dCap ab ao sLen sCap hx hy L l hg hn hsrc hfit;exact J81 _ w' hr (h w' hb hO)
theorem Jp{fn:Func}{p:Tmp}{ty:TypeId}(h:fn.results=#[.cell p ty])(tmps:Array Value)(w:World)(g off:Nat)(cs:Array Value)(d:TypeDesc)(hp:tmps.getD p undef=.pointer (some ⟨g,off,none⟩))(hu:P.underlying ty=some d)(hd:(match d with|.struct _|.array _ _=>true|_=>false)=true)(hi:(P.info? ty).map (·.size)=some cs.size)(hc:∀j (h:j<cs.size),w.cell? ⟨g,off+j,none⟩=some cs[j]) :
 (results fn tmps).run P w=.ok (.agg cs) w:=by
 have hp':tmps[p]?.getD undef=.pointer (some ⟨g,off,none⟩):=by simpa using hp
 simp [results,h,hp',asAddr,Kb w g off ty cs d hu hd hi hc]
theorem results_cell_tmp{fn:Func}{p q:Tmp}{ty:TypeId}(h:fn.results=#[.cell p ty,.tmp q])(tmps:Array Value)(w:World)(g off:Nat)(cs:Array Value)(d:TypeDesc)(v:Value)(hp:tmps.getD p undef=.pointer (some ⟨g,off,none⟩))(hv:tmps.getD q undef=v)(hu:P.underlying ty=some d)(hd:(match d with|.struct _|.array _ _=>true|_=>false)=true)(hi:(P.info? ty).map (·.size)=some cs.size)(hc:∀j (h:j<cs.size),w.cell? ⟨g,off+j,none⟩=some cs[j]) :
 (results fn tmps).run P w=.ok (.tuple #[.agg cs,v]) w:=by
 have hp':tmps[p]?.getD undef=.pointer (some ⟨g,off,none⟩):=by simpa using hp
 have hv':tmps[q]?.getD undef=v:=by simpa using hv
 simp [results,h,hp',hv',asAddr,Kb w g off ty cs d hu hd hi hc]
end
theorem J82(k i:Int):Tryz.prog.built 36 [(0,.int .u8 k),(1,.int .u8 i)]=some (u8s (k::i::zeros 62)).toArray:=by kernel_rfl
theorem kM(k i:Int)(w:World):(Instr.build 36 #[(0,.int .u8 k),(1,.int .u8 i)]).run Tryz.prog w=.ok (.agg (u8s (k::i::zeros 62)).toArray) w:=run_build w 36 _ _ (J82 k i)
theorem Jj(l:List Int):∀v∈(u8s l).toArray,v.oneCell'=true:=fun v hv=>by
 obtain⟨z,_,rfl⟩:=List.mem_map.1 (by simpa using hv);rfl
theorem J2(l:List Int):(u8s l).toArray.size=l.length:=by simp
theorem J54(b:Bk)(sv:Value)(n:Int)(w:World)(hs:BytesAt w sv b.bytes)(hw:b.Wf)(hg:b.good=false):Calls Tryz.prog 146 #[.agg (b.arr sv),.int .u32 n] w (Zr w (.tuple #[.agg (u8s (zeros 64)).toArray,.int .i64 11])):=by
 have HSZ:=Zh (b.arr_size hw sv);have HW:=Zh hw;have HG:=Zh fun w=>QT b sv hs.len hw w;rw [hg] at HG;go_enter Tryz.func146,Tryz.ntmps146
 repeat (first|(with_reducible refine JO (id:=0) ?_)|go_values|go_skip|go_guarded|go_step|go_upon|go_back)
 refine Stop.mk (wp_region_lit ?_);refine JV rfl rfl ?_;intro wA hA hB hl;refine nm ?_;refine J4 Kd rfl ?_;intro wB hR hB2 hl2;refine nm ?_;refine tk (.int .i64 0) ?_;have H0:Hid (ES w wB w.heap.size wA.heap.size b sv):=Zh ⟨⟨hA.below hB2 hl,HW.out⟩,hR,hB.trans (hB2.mono hB.size),Nat.le_refl _,hl⟩;clear hA hB hl hR hB2 hl2;generalize hgg:w.heap.size=g at *;generalize hrr:wA.heap.size=r at *;have HGG:=Zh hgg;clear hgg hrr wA;refine Zn ?_
 repeat (first|(with_reducible refine JO (id:=1) ?_)|go_values|go_skip|go_guarded|go_step|go_upon|go_back)
 refine Stop.mk (wp_region_lit ?_);refine JJ H0.bat.all HSZ.out rfl rfl ?_;refine nm ?_;refine J0 rfl fun K hK=>?_;go_simp;refine (HG.out _).mono ?_;rintro e w1 ⟨rfl,hb⟩;refine hK _ _ (nm ?_);clear hK K;have H1:=Zh (H0.below hb);clear hb H0;refine tk (.bool true) ?_;refine Zn ?_
 repeat (first|(with_reducible refine JO (id:=2) ?_)|go_values|go_skip|go_guarded|go_step|go_upon|go_back)
 refine Stop.mk (wp_region_lit ?_);refine Ji (build36 _) rfl ?_;refine nm ?_;refine J3 H1.res (by simp) (by simpa [zeros] using info36) (Jj _) rfl rfl rfl ?_;intro wZ hZ hOZ hlZ;refine nm ?_;refine tk (.int .i64 11) ?_;have HF:=Zh (H1.bel.trans (hOZ.below H1.bel.size (fun k hk=>by have:=H1.g0;have:=H1.gr;omega)));go_wp2_with fail
 refine bodyPost_ret (v:=.tuple #[.agg (u8s (zeros 64)).toArray,.int .i64 11]) (results_cell_tmp rfl _ _ r 0 _ _ _ rfl rfl Tryz.underlying36 rfl (by simpa [zeros] using info36) (hZ.all rfl)) rfl ⟨rfl,HF.out⟩
theorem J0z(b:Bk)(sv:Value)(n:Int)(w:World)(hs:BytesAt w sv b.bytes)(hw:b.Wf)(hg:b.good=true)(hk:b.kind=1)(hn:0≤n∧n<4294967296):Calls Tryz.prog 146 #[.agg (b.arr sv),.int .u32 n] w (Zr w (.tuple #[.agg (u8s (b.enc n)).toArray,.int .i64 0])):=by
 have HSZ:=Zh (b.arr_size hw sv);have HW:=Zh hw;have HG:=Zh fun w=>QT b sv hs.len hw w;rw [hg] at HG;obtain⟨hn1,hn2⟩:=hn;obtain⟨_,hi1,hi2⟩:=QF hg;have HK:=Zh hk;have HL:=Zh (enc_length hg hw n);have HEQ:Hid (JD (JD (1::b.id::zeros 62) 2 (le 4 n)) 6 b.page=b.enc n):=Zh (by
  have hp:=hw.page
  simp [Bk.enc,hk,JD,le,zeros,hp])
 clear hg hk hw;go_enter Tryz.func146,Tryz.ntmps146
 repeat (first|(with_reducible refine JO (id:=0) ?_)|go_values|go_skip|go_guarded|go_step|go_upon|go_back)
 refine Stop.mk (wp_region_lit ?_);refine JV rfl rfl ?_;intro wA hA hB hl;refine nm ?_;refine J4 Kd rfl ?_;intro wB hR hB2 hl2;refine nm ?_;refine tk (.int .i64 0) ?_;have H0:Hid (ES w wB w.heap.size wA.heap.size b sv):=Zh ⟨⟨hA.below hB2 hl,HW.out⟩,hR,hB.trans (hB2.mono hB.size),Nat.le_refl _,hl⟩;clear hA hB hl hR hB2 hl2;generalize hgg:w.heap.size=g at *;generalize hrr:wA.heap.size=r at *;have HGG:=Zh hgg;clear hgg hrr wA;refine Zn ?_
 repeat (first|(with_reducible refine JO (id:=1) ?_)|go_values|go_skip|go_guarded|go_step|go_upon|go_back)
 refine Stop.mk (wp_region_lit ?_);refine JJ H0.bat.all HSZ.out rfl rfl ?_;refine nm ?_;refine J0 rfl fun K hK=>?_;go_simp;refine (HG.out _).mono ?_;rintro e w1 ⟨rfl,hb⟩;refine hK _ _ (nm ?_);clear hK K;have H1:=Zh (H0.below hb);clear hb H0;refine tk (.bool false) ?_;refine Zn ?_
 repeat (first|(with_reducible refine JO (id:=3) ?_)|go_values|go_skip|go_guarded|go_step|go_upon|go_back)
 refine Stop.mk (wp_region_lit ?_);have c0:=H1.bat.c0;rw [HK.out] at c0;have c1:=H1.bat.c1;refine tk (.pointer (some ⟨g,0,none⟩)) ?_;refine tk (.int .i64 1) ?_;refine tk (.int .u8 1) ?_ (hr:=by go_simp;rfl);refine tk (.pointer (some ⟨g,1,none⟩)) ?_;refine tk (.int .i64 b.id) ?_;refine tk (.int .u8 b.id) ?_ (hr:=by go_simp;exact yT (by omega) (by omega));refine tk (.agg (u8s (1::b.id::zeros 62)).toArray) ?_ (hr:=(J8 _ _ _ _ 36 #[(0,.tmp 15),(1,.tmp 18)] rfl #[(0,.int .u8 1),(1,.int .u8 b.id)] (by simp only [List.map_toArray,List.map_cons,List.map_nil];rfl) _ (kM 1 b.id _)));refine J4 Kd rfl ?_;intro wC hC hBC hlC;refine nm ?_;refine J3 hC (by simp [zeros]) (by simpa [zeros] using info36) (Jj _) rfl rfl rfl ?_;intro wD hD hOD hlD;refine nm ?_;have H2:Hid (ET w wD g r w1.heap.size b sv (1::b.id::zeros 62)):=Zh (ET.mk (H1.below (hBC.trans (hOD.below hBC.size (fun k hk=>Nat.le_of_eq hk.symm)))) hD H1.res.lt);clear c0 c1 hC hBC hlC hD hOD hlD;generalize hss:w1.heap.size=s at *;clear hss;go_wp2_with fail
 refine (put4_any wD s 2 62 _ H2.sec (by simp [zeros]) n ⟨hn1,hn2⟩ ).mono ?_;rintro e w2 ⟨rfl,hb,ho⟩;rw [Qt] at hb;have H3:=Zh (H2.put hb ho);clear hb ho H2;have c0:=H3.es.bat.c0;rw [HK.out] at c0
 go_wp2_with fail
 refine J9 (fun _=>True) (by kernel_rfl) ?_;refine Jl 0 (some 27) (.slice (some ⟨s,6,none⟩) 58 58) rfl rfl (by kernel_rfl) (by kernel_rfl) (by kernel_rfl) (fun _ _ _ h=>h) rfl (fun w _=>by go_simp) trivial ?_;refine nm ?_;refine Jl 1 (some 28) (.pointer (some ⟨g,2,none⟩)) rfl rfl (by kernel_rfl) (by kernel_rfl) (by kernel_rfl) (fun _ _ _ h=>h) rfl (fun w _=>by go_simp) trivial ?_;refine nm ?_;refine Jl 2 (some 29) (.slice (some ⟨g,2,none⟩) 32 32) rfl rfl (by kernel_rfl) (by kernel_rfl) (by kernel_rfl) (fun _ _ _ h=>h) rfl (fun w _=>by go_simp) trivial ?_;refine nm ?_;refine Zo 3 fun K hK=>?_;refine ZF _ _ rfl Tryz.underlying80 Xb s 6 58 58 g 2 32 32 rfl rfl (u8s (JD (1::b.id::zeros 62) 2 (le 4 n))) b.page H3.drew.sec (by rw [HW.page];rfl) (fun j v hv=>H3.drew.es.bat.page_at j v hv) (by rw [HW.page];simp [JD,zeros,le]) (some 30) rfl fun wC hb ho=>?_;refine hK _ _ trivial (nm ?_);clear hK K;rw [Qt,HEQ.out] at hb;have H4:=Zh (H3.drew.put hb ho);clear hb ho c0;refine Zd ?_
 repeat (first|(with_reducible refine JO (id:=19) ?_)|go_values|go_skip|go_guarded|go_step|go_upon|go_back)
 refine Stop.mk (wp_region_lit ?_);refine Qc (Blk.all (cs:=(u8s (b.enc n)).toArray) H4.sec rfl) (by rw [J2,HL.out]) rfl rfl ?_;refine nm ?_;refine J3 H4.es.res (by rw [J2,HL.out];simp [zeros]) (by rw [J2,HL.out];exact info36) (Jj _) rfl rfl rfl ?_;intro wZ hZ hOZ hlZ;refine nm ?_;refine tk (.int .i64 0) ?_;have HF:=Zh (H4.es.bel.trans (hOZ.below H4.es.bel.size (fun k hk=>by have:=H4.es.g0;have:=H4.es.gr;omega)));go_wp2_with fail
 refine bodyPost_ret (v:=.tuple #[.agg (u8s (b.enc n)).toArray,.int .i64 0]) (results_cell_tmp rfl _ _ r 0 _ _ _ rfl rfl Tryz.underlying36 rfl (by rw [J2,HL.out];exact info36) ?_) rfl ⟨rfl,HF.out⟩;exact Blk.all (cs:=(u8s (b.enc n)).toArray) hZ rfl
theorem J10(b:Bk)(sv:Value)(n:Int)(w:World)(hs:BytesAt w sv b.bytes)(hw:b.Wf)(hg:b.good=true)(hk:b.kind=2)(hn:0≤n∧n<4294967296):Calls Tryz.prog 146 #[.agg (b.arr sv),.int .u32 n] w (Zr w (.tuple #[.agg (u8s (b.enc n)).toArray,.int .i64 0])):=by
 have HSZ:=Zh (b.arr_size hw sv);have HW:=Zh hw;have HG:=Zh fun w=>QT b sv hs.len hw w;rw [hg] at HG;obtain⟨hn1,hn2⟩:=hn;obtain⟨_,hi1,hi2⟩:=QF hg;have HK:=Zh hk;have HL:=Zh (enc_length hg hw n);have HEQ:Hid (JD (JD (((JD (2::b.id::zeros 62) 2 (le 4 n)).set 6 b.off).set 7 b.bytes.length) 8 b.bytes) 24 (le 2 b.prev)=b.enc n):=Zh (by
  rw [J0y _ _ _ _ _ (qZ hg hk).1.2]
  unfold Bk.enc
  rw [if_neg (by omega),if_pos hk])
 obtain⟨⟨hb1,hb2⟩,⟨ho1,ho2⟩,⟨hp1,hp2⟩,_⟩:=qZ hg hk;have HBY:=Zh hs;obtain⟨p,q,cap,hsv,_⟩:=hs.has (by omega);have HSV:=Zh hsv;clear hsv;clear hg hk hw;go_enter Tryz.func146,Tryz.ntmps146
 repeat (first|(with_reducible refine JO (id:=0) ?_)|go_values|go_skip|go_guarded|go_step|go_upon|go_back)
 refine Stop.mk (wp_region_lit ?_);refine JV rfl rfl ?_;intro wA hA hB hl;refine nm ?_;refine J4 Kd rfl ?_;intro wB hR hB2 hl2;refine nm ?_;refine tk (.int .i64 0) ?_;have H0:Hid (ES w wB w.heap.size wA.heap.size b sv):=Zh ⟨⟨hA.below hB2 hl,HW.out⟩,hR,hB.trans (hB2.mono hB.size),Nat.le_refl _,hl⟩;clear hA hB hl hR hB2 hl2;generalize hgg:w.heap.size=g at *;generalize hrr:wA.heap.size=r at *;have HGG:=Zh hgg;clear hgg hrr wA;refine Zn ?_
 repeat (first|(with_reducible refine JO (id:=1) ?_)|go_values|go_skip|go_guarded|go_step|go_upon|go_back)
 refine Stop.mk (wp_region_lit ?_);refine JJ H0.bat.all HSZ.out rfl rfl ?_;refine nm ?_;refine J0 rfl fun K hK=>?_;go_simp;refine (HG.out _).mono ?_;rintro e w1 ⟨rfl,hb⟩;refine hK _ _ (nm ?_);clear hK K;have H1:=Zh (H0.below hb);clear hb H0;refine tk (.bool false) ?_;refine Zn ?_
 repeat (first|(with_reducible refine JO (id:=3) ?_)|go_values|go_skip|go_guarded|go_step|go_upon|go_back)
 refine Stop.mk (wp_region_lit ?_);have c0:=H1.bat.c0;rw [HK.out] at c0;have c1:=H1.bat.c1;refine tk (.pointer (some ⟨g,0,none⟩)) ?_;refine tk (.int .i64 2) ?_;refine tk (.int .u8 2) ?_ (hr:=by go_simp;rfl);refine tk (.pointer (some ⟨g,1,none⟩)) ?_;refine tk (.int .i64 b.id) ?_;refine tk (.int .u8 b.id) ?_ (hr:=by go_simp;exact yT (by omega) (by omega));refine tk (.agg (u8s (2::b.id::zeros 62)).toArray) ?_ (hr:=(J8 _ _ _ _ 36 #[(0,.tmp 15),(1,.tmp 18)] rfl #[(0,.int .u8 2),(1,.int .u8 b.id)] (by simp only [List.map_toArray,List.map_cons,List.map_nil];rfl) _ (kM 2 b.id _)));refine J4 Kd rfl ?_;intro wC hC hBC hlC;refine nm ?_;refine J3 hC (by simp [zeros]) (by simpa [zeros] using info36) (Jj _) rfl rfl rfl ?_;intro wD hD hOD hlD;refine nm ?_;have H2:Hid (ET w wD g r w1.heap.size b sv (2::b.id::zeros 62)):=Zh (ET.mk (H1.below (hBC.trans (hOD.below hBC.size (fun k hk=>Nat.le_of_eq hk.symm)))) hD H1.res.lt);clear c0 c1 hC hBC hlC hD hOD hlD;generalize hss:w1.heap.size=s at *;clear hss;go_wp2_with fail
 refine (put4_any wD s 2 62 _ H2.sec (by simp [zeros]) n ⟨hn1,hn2⟩ ).mono ?_;rintro e w2 ⟨rfl,hb,ho⟩;rw [Qt] at hb;have H3:=Zh (H2.put hb ho);clear hb ho H2;have c0:=H3.es.bat.c0;rw [HK.out] at c0;simp only []
 repeat (first|(with_reducible refine JO (id:=9) ?_)|go_values|go_skip|go_guarded|go_step|go_upon|go_back)
 refine Stop.mk (wp_region_lit ?_);have c34:=H3.es.bat.c34;have hc:=H3.sec.cell (i:=6) (v:=.int .u8 0) (by simp [JD,zeros,le]);have hf:=H3.sec.frozen 6;refine tk (.pointer (some ⟨g,34,none⟩)) ?_;refine tk (.int .i64 b.off) ?_;refine tk (.int .u8 b.off) ?_ (hr:=by go_simp;exact yT (by omega) (by omega));refine tk (.pointer (some ⟨s,6,none⟩)) ?_;refine Xy (w2.setCell ⟨s,6,none⟩ (.int .u8 b.off)) rfl (by go_simp) ?_;refine nm ?_;have H4:=Zh (H3.set 6 b.off);clear c34 hc hf c0 H3;generalize w2.setCell ⟨s,6,none⟩ (.int .u8 b.off)=w3 at *;refine Zn ?_
 repeat (first|(with_reducible refine JO (id:=10) ?_)|go_values|go_skip|go_guarded|go_step|go_upon|go_back)
 refine Stop.mk (wp_region_lit ?_);have c35:=H4.es.bat.c35;rw [HSV.out] at c35;have hc:=H4.sec.cell (i:=7) (v:=.int .u8 0) (by simp [JD,zeros,le]);have hf:=H4.sec.frozen 7;refine tk (.pointer (some ⟨g,35,none⟩)) ?_;refine tk (.slice (some ⟨p,q,none⟩) b.bytes.length cap) ?_;refine tk (.int .i64 b.bytes.length) ?_;refine tk (.int .u8 b.bytes.length) ?_ (hr:=by go_simp;exact yT (by omega) (by omega));refine tk (.pointer (some ⟨s,7,none⟩)) ?_;refine Xy (w3.setCell ⟨s,7,none⟩ (.int .u8 b.bytes.length)) rfl (by go_simp) ?_;refine nm ?_;have H5:=Zh (H4.set 7 b.bytes.length);clear c35 hc hf H4;generalize w3.setCell ⟨s,7,none⟩ (.int .u8 b.bytes.length)=w4 at *;go_wp2_with fail
 have c35:=H5.drew.es.bat.c35;rw [HSV.out] at c35;refine J9 (fun wq=>wq.cell? ⟨g,35,none⟩=some (.slice (some ⟨p,q,none⟩) b.bytes.length cap)) (by kernel_rfl) ?_;refine Jl 0 (some 42) (.slice (some ⟨s,8,none⟩) 16 56) rfl rfl (by kernel_rfl) (by kernel_rfl) (by kernel_rfl) (fun _ _ _ h=>h) rfl (fun w _=>by go_simp) c35 ?_;refine nm ?_;refine Jl 1 (some 43) (.pointer (some ⟨g,35,none⟩)) rfl rfl (by kernel_rfl) (by kernel_rfl) (by kernel_rfl) (fun _ _ _ h=>h) rfl (fun w _=>by go_simp) c35 ?_;refine nm ?_;refine Jl 2 (some 44) (.slice (some ⟨p,q,none⟩) b.bytes.length cap) rfl rfl (by kernel_rfl) (by kernel_rfl) (by kernel_rfl) (fun _ _ _ h=>h) rfl (fun w hS=>by go_simp) c35 ?_;refine nm ?_;refine Zo 3 fun K hK=>?_;have HBB:=HBY.below (H5.drew.es.bel);obtain⟨p',q',cap',hsv',hsrc⟩:=HBB.has (by omega);rw [HSV.out] at hsv';cases hsv';refine ZF _ _ rfl Tryz.underlying80 Xb s 8 16 56 p q b.bytes.length cap rfl rfl (u8s (((JD (2::b.id::zeros 62) 2 (le 4 n)).set 6 b.off).set 7 b.bytes.length)) b.bytes H5.drew.sec (Nat.min_eq_left hb2).symm hsrc (by simp [JD,zeros,le];omega) (some 45) rfl fun wC hb ho=>?_;rw [Qt] at hb;have H6:=Zh (H5.drew.put hb ho);have c35':=H6.es.bat.c35;rw [HSV.out] at c35';refine hK _ _ c35' ?_;clear hK K c35 c35' hb ho hsrc HBB H5;refine nm ?_;refine Zd ?_
 go_wp2_with fail
 have c36:=H6.drew.es.bat.c36;refine J9 (fun wq=>wq.cell? ⟨g,36,none⟩=some (.int .i64 b.prev)) (by kernel_rfl) ?_;refine Jl 0 (some 46) (.slice (some ⟨s,24,none⟩) 2 40) rfl rfl (by kernel_rfl) (by kernel_rfl) (by kernel_rfl) (fun _ _ _ h=>h) rfl (fun w _=>by go_simp) c36 ?_;refine nm ?_;refine Jl 1 (some 47) (.pointer (some ⟨g,36,none⟩)) rfl rfl (by kernel_rfl) (by kernel_rfl) (by kernel_rfl) (fun _ _ _ h=>h) rfl (fun w _=>by go_simp) c36 ?_;refine nm ?_;refine Jl 2 (some 48) (.int .i64 b.prev) rfl rfl (by kernel_rfl) (by kernel_rfl) (by kernel_rfl) (fun _ _ _ h=>h) rfl (fun w hS=>by go_simp) c36 ?_;refine nm ?_;refine Jl 3 (some 49) (.int .u32 b.prev) rfl rfl (by kernel_rfl) (by kernel_rfl) (by kernel_rfl) (fun _ _ _ h=>h) rfl (fun w hS=>by go_simp;exact kL (by omega) (by omega)) c36 ?_;refine nm ?_;refine Zo 4 fun K hK=>?_;go_simp;refine (put2_any _ s 24 40 _ H6.drew.sec (by simp [JD,zeros,le];omega) b.prev ⟨by omega,by omega⟩).mono ?_;rintro e w6 ⟨rfl,hb,ho⟩;rw [Qt,HEQ.out] at hb;have H7:=Zh (H6.drew.put hb ho);refine hK _ _ H7.es.bat.c36 ?_;clear hK K c36 hb ho H6;refine nm ?_;refine Zd ?_
 repeat (first|(with_reducible refine JO (id:=19) ?_)|go_values|go_skip|go_guarded|go_step|go_upon|go_back)
 refine Stop.mk (wp_region_lit ?_);refine Qc (Blk.all (cs:=(u8s (b.enc n)).toArray) H7.sec rfl) (by rw [J2,HL.out]) rfl rfl ?_;refine nm ?_;refine J3 H7.es.res (by rw [J2,HL.out];simp [zeros]) (by rw [J2,HL.out];exact info36) (Jj _) rfl rfl rfl ?_;intro wZ hZ hOZ hlZ;refine nm ?_;refine tk (.int .i64 0) ?_;have HF:=Zh (H7.es.bel.trans (hOZ.below H7.es.bel.size (fun k hk=>by have:=H7.es.g0;have:=H7.es.gr;omega)));go_wp2_with fail
 refine bodyPost_ret (v:=.tuple #[.agg (u8s (b.enc n)).toArray,.int .i64 0]) (results_cell_tmp rfl _ _ r 0 _ _ _ rfl rfl Tryz.underlying36 rfl (by rw [J2,HL.out];exact info36) ?_) rfl ⟨rfl,HF.out⟩;exact Blk.all (cs:=(u8s (b.enc n)).toArray) hZ rfl
theorem J11(b:Bk)(sv:Value)(n:Int)(w:World)(hs:BytesAt w sv b.bytes)(hw:b.Wf)(hg:b.good=true)(hk:b.kind=3)(hn:0≤n∧n<4294967296):Calls Tryz.prog 146 #[.agg (b.arr sv),.int .u32 n] w (Zr w (.tuple #[.agg (u8s (b.enc n)).toArray,.int .i64 0])):=by
 have HSZ:=Zh (b.arr_size hw sv);have HW:=Zh hw;have HG:=Zh fun w=>QT b sv hs.len hw w;rw [hg] at HG;obtain⟨hn1,hn2⟩:=hn;obtain⟨_,hi1,hi2⟩:=QF hg;have HK:=Zh hk;have HL:=Zh (enc_length hg hw n);have HEQ:Hid (JD (JD (3::b.id::zeros 62) 2 (le 4 n)) 6 (b.heads.flatMap (le 2))=b.enc n):=Zh (by
  have hh:=flat_length b.heads
  rw [hw.heads] at hh
  unfold Bk.enc
  rw [if_neg (by omega),if_neg (by omega)]
  generalize b.heads.flatMap (le 2)=F at hh ⊢
  simp [JD,le,zeros,hh])
 obtain⟨hhs,_⟩:=Jg5 hg hk;have HHS:=Zh hhs;have hh8:(Jq b.heads).toArray.size=8:=by simpa using hw.heads
 have HIX:=Zh fun (j:Nat) (x:Int) (hx:b.heads[j]? = some x) (w:World)=>kr w b.heads hw.heads j x hx;clear hhs;clear hg hk hw;go_enter Tryz.func146,Tryz.ntmps146
 repeat (first|(with_reducible refine JO (id:=0) ?_)|go_values|go_skip|go_guarded|go_step|go_upon|go_back)
 refine Stop.mk (wp_region_lit ?_);refine JV rfl rfl ?_;intro wA hA hB hl;refine nm ?_;refine J4 Kd rfl ?_;intro wB hR hB2 hl2;refine nm ?_;refine tk (.int .i64 0) ?_;have H0:Hid (ES w wB w.heap.size wA.heap.size b sv):=Zh ⟨⟨hA.below hB2 hl,HW.out⟩,hR,hB.trans (hB2.mono hB.size),Nat.le_refl _,hl⟩;clear hA hB hl hR hB2 hl2;generalize hgg:w.heap.size=g at *;generalize hrr:wA.heap.size=r at *;have HGG:=Zh hgg;clear hgg hrr wA;refine Zn ?_
 repeat (first|(with_reducible refine JO (id:=1) ?_)|go_values|go_skip|go_guarded|go_step|go_upon|go_back)
 refine Stop.mk (wp_region_lit ?_);refine JJ H0.bat.all HSZ.out rfl rfl ?_;refine nm ?_;refine J0 rfl fun K hK=>?_;go_simp;refine (HG.out _).mono ?_;rintro e w1 ⟨rfl,hb⟩;refine hK _ _ (nm ?_);clear hK K;have H1:=Zh (H0.below hb);clear hb H0;refine tk (.bool false) ?_;refine Zn ?_
 repeat (first|(with_reducible refine JO (id:=3) ?_)|go_values|go_skip|go_guarded|go_step|go_upon|go_back)
 refine Stop.mk (wp_region_lit ?_);have c0:=H1.bat.c0;rw [HK.out] at c0;have c1:=H1.bat.c1;refine tk (.pointer (some ⟨g,0,none⟩)) ?_;refine tk (.int .i64 3) ?_;refine tk (.int .u8 3) ?_ (hr:=by go_simp;rfl);refine tk (.pointer (some ⟨g,1,none⟩)) ?_;refine tk (.int .i64 b.id) ?_;refine tk (.int .u8 b.id) ?_ (hr:=by go_simp;exact yT (by omega) (by omega));refine tk (.agg (u8s (3::b.id::zeros 62)).toArray) ?_ (hr:=(J8 _ _ _ _ 36 #[(0,.tmp 15),(1,.tmp 18)] rfl #[(0,.int .u8 3),(1,.int .u8 b.id)] (by simp only [List.map_toArray,List.map_cons,List.map_nil];rfl) _ (kM 3 b.id _)));refine J4 Kd rfl ?_;intro wC hC hBC hlC;refine nm ?_;refine J3 hC (by simp [zeros]) (by simpa [zeros] using info36) (Jj _) rfl rfl rfl ?_;intro wD hD hOD hlD;refine nm ?_;have H2:Hid (ET w wD g r w1.heap.size b sv (3::b.id::zeros 62)):=Zh (ET.mk (H1.below (hBC.trans (hOD.below hBC.size (fun k hk=>Nat.le_of_eq hk.symm)))) hD H1.res.lt);clear c0 c1 hC hBC hlC hD hOD hlD;generalize hss:w1.heap.size=s at *;clear hss;go_wp2_with fail
 refine (put4_any wD s 2 62 _ H2.sec (by simp [zeros]) n ⟨hn1,hn2⟩ ).mono ?_;rintro e w2 ⟨rfl,hb,ho⟩;rw [Qt] at hb;have H3:=Zh (H2.put hb ho);clear hb ho H2;have c0:=H3.es.bat.c0;rw [HK.out] at c0;simp only []
 repeat (first|(with_reducible refine JO (id:=14) ?_)|go_values|go_skip|go_guarded|go_step|go_upon|go_back)
 refine Stop.mk (wp_region_lit ?_);refine tk (.pointer (some ⟨g,37,none⟩)) ?_;refine XI (cs:=(Jq b.heads).toArray) H3.es.bat.heads hh8 rfl rfl ?_;refine nm ?_;refine tk (.int .i64 0) ?_;refine Zn ?_;clear c0
 go_wp2_with fail
 go_loopg [55] 8 (fun q i wr=>∃k:Nat,8-k≤q∧k≤8∧i=.int .i64 k∧ET w wr g r s b sv (JD (JD (3::b.id::zeros 62) 2 (le 4 n)) 6 ((b.heads.take k).flatMap (le 2))))
 case atStart=>exact⟨0,by omega,by omega,rfl,by rw [List.take_zero,List.flatMap_nil,J80];exact H3.out⟩
 case round =>
  obtain⟨k,hg,hk,rfl,het⟩:=hrel;have HE:=Zh het;clear het
  by_cases hlt:k<8
  · obtain⟨x,hx⟩:∃x,b.heads[k]? = some x:=⟨_,List.getElem?_eq_getElem (by rw [HW.heads];exact hlt)⟩
    have h3:=HIX.out k x hx;obtain⟨hx1,hx2⟩:=HHS.out x (List.mem_of_getElem? hx);have HX:=Zh hx;clear hx;have HLK:Hid ((JD (JD (3::b.id::zeros 62) 2 (le 4 n)) 6 ((b.heads.take k).flatMap (le 2))).length=64∧((b.heads.take k).flatMap (le 2)).length=2*k):=Zh (by
     have hf:=flat_length (b.heads.take k)
     rw [List.length_take,HW.heads,Nat.min_eq_left hk] at hf
     refine⟨?_,hf⟩
     rw [Yp (by rw [hf];simp [JD,zeros,le];omega)]
     simp [JD,zeros,le])
    have HNX:Hid (JD (JD (JD (3::b.id::zeros 62) 2 (le 4 n)) 6 ((b.heads.take k).flatMap (le 2))) (6+2*k) (le 2 x)=JD (JD (3::b.id::zeros 62) 2 (le 4 n)) 6 ((b.heads.take (k+1)).flatMap (le 2))):=Zh (by
     have:=J51 (L:=JD (3::b.id::zeros 62) 2 (le 4 n)) (o:=6) (bs:=(b.heads.take k).flatMap (le 2)) (cs:=le 2 x) (by rw [HLK.out.2,J7];simp [JD,zeros,le];omega)
     rw [HLK.out.2] at this
     rw [this,List.take_add_one,HX.out]
     simp)
    go_wp2_with fail
    refine (kJ wr s k hlt).mono ?_;rintro e w6 ⟨rfl,rfl⟩
    go_wp2_with fail
    refine (put2_any wr s (6+2*k) (64-(6+2*k)) _ HE.sec (by have:=HLK.out.1;simp only [List.length_map];omega) x ⟨by omega,by omega⟩).mono ?_;rintro e w7 ⟨rfl,hb,ho⟩;rw [Qt,HNX.out] at hb;have HE2:=Zh (HE.put hb ho);clear hb ho
    go_wp2_with fail
    go_roundg (8-(k+1))
    case measure=>omega
    case rel=>exact⟨k+1,by omega,by omega,by go_num,HE2.out⟩
  · have H9:Hid (ET w wr g r s b sv (b.enc n)):=Zh (by
     obtain rfl:k=8:=by omega
     have:=HE.out
     rwa [List.take_of_length_le (by rw [HW.heads];omega),HEQ.out] at this)
    have hk8:k=8:=by omega
    clear HE;subst hk8
    repeat (first|(with_reducible refine JO (id:=19) ?_)|go_values|go_skip|go_guarded|go_step|go_upon|go_back)
    refine Stop.mk (wp_region_lit ?_);refine Qc (Blk.all (cs:=(u8s (b.enc n)).toArray) H9.sec rfl) (by rw [J2,HL.out]) rfl rfl ?_;refine nm ?_;refine J3 H9.es.res (by rw [J2,HL.out];simp [zeros]) (by rw [J2,HL.out];exact info36) (Jj _) rfl rfl rfl ?_;intro wZ hZ hOZ hlZ;refine nm ?_;refine tk (.int .i64 0) ?_;have HF:=Zh (H9.es.bel.trans (hOZ.below H9.es.bel.size (fun k hk=>by have:=H9.es.g0;have:=H9.es.gr;omega)));go_wp2_with fail
    refine bodyPost_ret (v:=.tuple #[.agg (u8s (b.enc n)).toArray,.int .i64 0]) (results_cell_tmp rfl _ _ r 0 _ _ _ rfl rfl Tryz.underlying36 rfl (by rw [J2,HL.out];exact info36) ?_) rfl ⟨rfl,HF.out⟩;exact Blk.all (cs:=(u8s (b.enc n)).toArray) hZ rfl
theorem kN(b:Bk)(sv:Value)(n:Int)(w:World)(hs:BytesAt w sv b.bytes)(hw:b.Wf)(hn:0≤n∧n<4294967296):Calls Tryz.prog 146 #[.agg (b.arr sv),.int .u32 n] w (Zr w (.tuple #[.agg (u8s (b.sec n)).toArray,.int .i64 b.err])):=by
 unfold Bk.sec Bk.err;cases hg:b.good
 · simp only [Bool.false_eq_true,if_false];exact J54 b sv n w hs hw hg
 · simp only [if_true];rcases (QF hg).1 with k|k|k
   · exact J0z b sv n w hs hw hg k hn
   · exact J10 b sv n w hs hw hg k hn
   · exact J11 b sv n w hs hw hg k hn
def Fresh(B:Nat)(sv:Value):Prop:=∀b o n c,sv=.slice (some ⟨b,o,none⟩) n c→B≤b
theorem Fresh.nil(B:Nat):Fresh B (.slice none 0 0):=fun _ _ _ _ h=>by cases h
theorem J12(n:Nat)(l:List Int):JD (zeros n) 0 l=l++zeros (n-l.length):=by simp [JD,zeros]
theorem Jf(dst:Option Tmp)(hd:o.dst=dst)(v:Value)(w':World)(hr:(execOp a.eval o).run P w=.ok (.value v) w')(h:K (a.put dst v) w'):o.wp P a w K Q:=by
 subst hd;exact J81 v w' hr h
theorem kO{S:World→Prop}(i j:Nat){p:Oper}(hr:Region.ready md ops listed=[i,j])(hi:ops[i]? = some o)(hj:ops[j]? = some p)(hw:Region.wanted o (yielded ops a.tmps)=true)(hx:Region.wanted p (yielded ops a.tmps)=true)(h:∀K:Act→World→Prop,(∀a w,S w→wpAnyH P md ops Q S fuel (listed.setIfInBounds i true) a w→K a w)→Oper.wp P o a w K Q)(k:∀K:Act→World→Prop,(∀a w,S w→wpAnyH P md ops Q S fuel (listed.setIfInBounds j true) a w→K a w)→Oper.wp P p a w K Q):wpAnyH P md ops Q S (fuel+1) listed a w :=
 wpAnyH_all hr (by simp) fun m hm=>by
  rcases (show m=i∨m=j by simpa using hm) with rfl|rfl
  · exact wpOp_step hi fun K hK=>by rw [if_pos hw];exact h K fun a w hS hA=>hK a w ⟨hS,hA⟩
  · exact wpOp_step hj fun K hK=>by rw [if_pos hx];exact k K fun a w hS hA=>hK a w ⟨hS,hA⟩
theorem none_wf:Bk.none.Wf:=⟨K7,K7,K7,K7,rfl,fun x hx=>by rw [List.eq_of_mem_replicate hx];exact⟨by decide,by decide⟩,by decide,fun x hx=>by simp [Bk.none] at hx,rfl,fun x hx=>by rw [List.eq_of_mem_replicate hx];exact K7⟩
theorem BytesAt.only{t:Nat}(h:BytesAt w sv l)(ho:Only (fun k=>k=t) w w')(ht:∀b o n c,sv=.slice (some ⟨b,o,none⟩) n c→b≠t):BytesAt w' sv l:=by
 obtain⟨a,cap,e,hc⟩:=h;refine⟨a,cap,e,fun i x hx=>?_⟩;obtain⟨b,o,e2,hx2⟩:=hc i x hx;refine⟨b,o,e2,?_⟩;have hne:b≠t:=ht b o _ _ (by rw [e,e2]);have hb:=ho.block b (block_lt_of_cell hx2) hne;rw [←hx2];simp only [World.cell?,hb]
theorem BytesAt.lt(h:BytesAt w sv l)(hl:0<l.length){o:Nat}(e:sv=.slice (some ⟨b,o,none⟩) n c):b<w.heap.size:=by
 obtain⟨b',o',c',e',hc⟩:=h.has hl;rw [e] at e';cases e';exact block_lt_of_cell (hc 0 l[0] (by simp [hl]))
theorem Kq{row:Option Nat}(h:w.grownBy w' row)(hB:B≤w.heap.size)(hr:∀k,row=some k→B≤k):Below B w w' :=
 ⟨h.os,h.tape,h.output,h.size,fun k hk=>h.block k (by omega) fun e=>by have:=hr k e.symm;omega⟩
section
variable {P:Program}
theorem Qd(ev:Operand→Value)(op:Oper)(x y:Operand)(t1 t2:TypeId)(ho:op.op=.call { callee:=.builtin .append,args:=#[x,y],argTypes:=#[t1,t2] })(vx vy v':Value)(hx:ev x=vx)(hy:ev y=vy)(hr:(Builtin.append_ #[t1,t2] op.type #[vx,vy]).run P w=.ok v' w'):(execOp ev op).run P w=.ok (.value v') w':=by
 unfold execOp;simp only [ho,resolve,invoke,builtin,Sem.run_bind,Sem.run_pure,Result.andThen_ok,List.map_toArray,List.map_cons,List.map_nil,hx,hy,hr]
end
end Go.Proofs.YtdbfmikeaoaebaaGreatDoor
