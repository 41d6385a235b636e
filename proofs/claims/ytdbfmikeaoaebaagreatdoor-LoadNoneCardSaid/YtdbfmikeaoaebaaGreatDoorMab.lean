/- Steps. -/
import Derived.Test.YtdbfmikeaoaebaaGreatDoorMaa
import Derived.Deep.Cut
import Derived.Deep.CutRange
import Derived.Deep.Upon
import Derived.Lib.AppendZeros
import Derived.WalkKit
import Derived.WalkSpells
import Derived.WalkLawsBesides
import Derived.BigQuiet
import Derived.Deep.QuietTactic
import Derived.Deep.LoopGhost
import Derived.Lib.Hide
import Derived.Deep.DeepFit
import Derived.Deep.DeepMust
import Derived.OrdersHeld
import Derived.Laws.Rows
set_option linter.unusedSimpArgs false
set_option linter.unusedVariables false
set_option maxRecDepth 100000
set_option maxHeartbeats 4000000
namespace Go.Proofs.YtdbfmikeaoaebaaGreatDoor
open Go.RowKit
variable {B b c fuel g n:Nat} {K:Act→World→Prop} {P:Program} {Q:Exit→Act→World→Prop} {W w w':World} {a:Act} {l:List Int} {listed:Array Bool} {md:Region.Mode} {o:Oper} {ops:Array Oper} {sv:Value}
def BytesAt(w:World)(sv:Value)(l:List Int):Prop:=∃a cap,sv=.slice a l.length cap∧∀i x,l[i]? = some x→∃b o,a=some ⟨b,o,none⟩∧w.cell? ⟨b,o+i,none⟩=some (.int .u8 x)
theorem BytesAt.len(h:BytesAt w sv l):Len sv l.length:=let ⟨a,cap,h,_⟩:=h; ⟨a,cap,h⟩
theorem BytesAt.below(h:BytesAt w sv l)(hb:Below w.heap.size w w'):BytesAt w' sv l:=by
 obtain⟨a,cap,e,hc⟩:=h;refine⟨a,cap,e,fun i x hx=>?_⟩;obtain⟨b,o,e2,hx2⟩:=hc i x hx;exact⟨b,o,e2,(hb.cell (block_lt_of_cell hx2)).trans hx2⟩
theorem BytesAt.nil(w:World)(cap:Nat)(a:Option Addr):BytesAt w (.slice a 0 cap) []:=⟨a,cap,rfl,fun i x h=>by simp at h⟩
theorem BytesAt.has(h:BytesAt w sv l)(hl:0<l.length):∃b o cap,sv=.slice (some ⟨b,o,none⟩) l.length cap∧∀i x,l[i]? = some x→w.cell? ⟨b,o+i,none⟩=some (.int .u8 x):=by
 obtain⟨a,cap,e,hc⟩:=h;obtain⟨b,o,e2,_⟩:=hc 0 l[0] (by simp [hl]);subst e2;refine⟨b,o,cap,e,fun i x hx=>?_⟩;obtain⟨b',o',e3,hx2⟩:=hc i x hx;cases e3;exact hx2
theorem BAt.page_at{b:Bk}(h:BAt w g b sv)(j:Nat)(v:Int)(hv:b.page[j]? = some v):w.cell? ⟨g,2+j,none⟩=some (.int .u8 v):=h.blk.cell (by
 rw [b.atP h.wf sv j (by have:=(List.getElem?_eq_some_iff.1 hv).1; rwa [h.wf.page] at this),List.getElem?_map,hv]
 rfl)
theorem y8{n:Int}(h0:0≤n)(h1:n<256):IntKind.u8.wrap n=n:=by rw [IntKind.wrap_u8]; omega
theorem jZ{n:Int}(h0:0≤n)(h1:n<4294967296):IntKind.u32.wrap n=n:=by rw [IntKind.wrap_u32]; omega
theorem JR{n:Int}(h0:0≤n)(h1:n<4294967296):IntKind.i64.wrap n=n:=by rw [IntKind.wrap_i64]; omega
def Jz(L:List Int)(o:Nat)(bs:List Int):List Int:=L.take o++bs++L.drop (o+bs.length)
theorem Qk(L:List Int)(o:Nat)(bs:List Int):lay (u8s L) o bs=u8s (Jz L o bs):=by simp [lay,Jz]
theorem Yg{L:List Int}{o:Nat}{bs:List Int}(h:o+bs.length≤L.length):(Jz L o bs).length=L.length:=by
 simp [Jz];omega
theorem J3a{L:List Int}{o:Nat}{bs cs:List Int}(h:o+bs.length+cs.length≤L.length):Jz (Jz L o bs) (o+bs.length) cs=Jz L o (bs++cs):=by
 have h1:(L.take o).length=o:=by simp; omega
 have h2:(L.take o++bs).length=o+bs.length:=by simp; omega
 unfold Jz;rw [List.take_append_of_le_length (by omega),List.take_of_length_le (by omega),List.drop_append,List.drop_of_length_le (by omega),h2];simp only [List.nil_append,List.drop_drop,List.length_append,List.append_assoc];congr 4;omega
theorem YZ{H T bs:List Int}{o:Nat}(h:H.length=o):Jz (H++T) o bs=H++(bs++T.drop bs.length):=by
 subst h;unfold Jz;rw [List.take_left',List.drop_append,List.drop_of_length_le (by omega)]
 · simp
 · rfl
theorem Z0(n m:Nat):(zeros n).drop m=zeros (n-m):=by simp [zeros]
theorem J3b(n m:Nat):zeros (n+m)=zeros n++zeros m:=by simp [zeros]
theorem zO(i n off prev:Int)(l:List Int)(h:l.length≤16):Jz (Jz (((Jz (2::i::zeros 62) 2 (le 4 n)).set 6 off).set 7 l.length) 8 l) 24 (le 2 prev) =
 2::i::(le 4 n++(off::l.length::(l++(zeros (16-l.length)++(le 2 prev++zeros 38))))):=by
 have e:((Jz (2::i::zeros 62) 2 (le 4 n)).set 6 off).set 7 l.length=([2,i,n%256,n/256%256,n/256/256%256,n/256/256/256%256,off,l.length]:List Int)++zeros 56:=by simp [Jz,le,zeros]
 rw [e,YZ (o:=8) (by rfl),Z0,show 56-l.length=(16-l.length)+40 by omega,J3b,←List.append_assoc l,←List.append_assoc _ _ (zeros 40),YZ (o:=24) (by simp [zeros]; omega),Z0,J6];simp [le]
theorem J65(L:List Int)(o:Nat):Jz L o []=L:=by simp [Jz]
structure ES (W w:World) (g r:Nat) (b:Bk) (sv:Value):Prop where
 bat:BAt w g b sv
 res:Blk w r (u8s (zeros 64))
 bel:Below W.heap.size W w
 g0:W.heap.size≤g
 gr:g<r
theorem ES.below{r:Nat}{b:Bk}(h:ES W w g r b sv)(hb:Below w.heap.size w w'):ES W w' g r b sv :=
 ⟨h.bat.below hb h.bat.lt,h.res.below hb h.res.lt,h.bel.trans (hb.mono h.bel.size),h.g0,h.gr⟩
structure ET (W w:World) (g r s:Nat) (b:Bk) (sv:Value) (L:List Int):Prop where
 es:ES W w g r b sv
 sec:Blk w s (u8s L)
 rs:r<s
theorem ET.below{r s:Nat}{b:Bk}{L:List Int}(h:ET W w g r s b sv L)(hb:Below w.heap.size w w'):ET W w' g r s b sv L :=
 ⟨h.es.below hb,h.sec.below hb h.sec.lt,h.rs⟩
theorem ET.drew{r s:Nat}{b:Bk}{L:List Int}(h:ET W w g r s b sv L):ET W w.drew g r s b sv L:=h.below (Below.refl _ _).drew
theorem ET.put{r s:Nat}{b:Bk}{L M:List Int}(h:ET W w g r s b sv L)(hs:Blk w' s (u8s M))(ho:Only (fun k=>k=s) w w'):ET W w' g r s b sv M :=
 ⟨⟨⟨h.es.bat.blk.only ho (by have:=h.rs; have:=h.es.gr; omega),h.es.bat.wf⟩,h.es.res.only ho (by have:=h.rs; omega),h.es.bel.trans (ho.below h.es.bel.size (fun k hk=>by have:=h.es.g0; have:=h.es.gr; have:=h.rs; omega)),h.es.g0,h.es.gr⟩,hs,h.rs⟩
theorem ET.set{r s:Nat}{b:Bk}{L:List Int}(h:ET W w g r s b sv L)(i:Nat)(x:Int):ET W (w.setCell ⟨s,i,none⟩ (.int .u8 x)) g r s b sv (L.set i x) :=
 h.put (by have:=h.sec.set i (.int .u8 x); rwa [←List.map_set] at this) ((Only.refl (fun k=>k=s) w).setCell (p:=⟨s,i,none⟩) (.inl rfl) _)
section
variable {P:Program}
theorem J66(v:Value)(w':World)(hr:(execOp a.eval o).run P w=.ok (.value v) w')(h:K (a.put o.dst v) w'):o.wp P a w K Q:=by
 unfold Oper.wp;rw [hr];exact h
theorem J3c(w:World)(ev:Operand→Value)(op:Oper)(x y:Operand)(ho:op.op=.call { callee:=.builtin .copy,args:=#[x,y],argTypes:=#[80,80] })(hu:P.underlying 80=some (.slice 5))(hs:(P.info? 5).map (·.size)=some 1)(g o dLen dCap:Nat)(ab ao sLen sCap:Nat)(hx:ev x=.slice (some ⟨g,o,none⟩) dLen dCap)(hy:ev y=.slice (some ⟨ab,ao,none⟩) sLen sCap)(L:List Value)(l:List Int)(hg:Blk w g L)(hn:l.length=Nat.min sLen dLen)(hsrc:∀j v,l[j]? = some v→w.cell? ⟨ab,ao+j,none⟩=some (.int .u8 v))(hfit:o+l.length≤L.length) :
 ∃w',(execOp ev op).run P w=.ok (.value (goInt l.length)) w'∧Blk w' g (lay L o l)∧Only (fun k=>k=g) w w':=by
 have hg':=hg;obtain⟨t,ht⟩:=hg;refine⟨w.setRow g (lay L o l).toArray,?_,?_,?_⟩
 · unfold execOp;have:=run_copy_row P w 80 80 op.type 5 g o dLen dCap ⟨ab,ao,none⟩ sLen sCap L.toArray t (l.map (Value.int .u8)) hu hs ht (by simpa using hn) (fun j v hv=>by
    rw [List.getElem?_map] at hv
    cases e:l[j]? with
    | none=>simp [e] at hv
    | some z =>
     simp [e] at hv
     subst hv
     have:=hsrc j z e
     rwa [show (⟨ab,ao,none⟩:Addr).add j=⟨ab,ao+j,none⟩ by unfold Addr.add; split <;> simp_all]) (by simpa using hfit) (fun v hv=>by
    obtain⟨z,_,rfl⟩:=List.mem_map.1 hv
    rfl)
   simp only [ho,resolve,invoke,builtin,Sem.run_bind,Sem.run_pure,Result.andThen_ok,List.map_toArray,List.map_cons,List.map_nil,hx,hy,this];simp [lay]
 · exact hg'.row _
 · exact (Only.refl (fun k=>k=g) w).setRow (.inl rfl) _
theorem Zj{op:Oper}(x y:Operand)(ho:op.op=.call { callee:=.builtin .copy,args:=#[x,y],argTypes:=#[80,80] })(hu:P.underlying 80=some (.slice 5))(hs:(P.info? 5).map (·.size)=some 1)(g o dLen dCap:Nat)(ab ao sLen sCap:Nat)(hx:a.eval x=.slice (some ⟨g,o,none⟩) dLen dCap)(hy:a.eval y=.slice (some ⟨ab,ao,none⟩) sLen sCap)(L:List Value)(l:List Int)(hg:Blk w g L)(hn:l.length=Nat.min sLen dLen)(hsrc:∀j v,l[j]? = some v→w.cell? ⟨ab,ao+j,none⟩=some (.int .u8 v))(hfit:o+l.length≤L.length)(dst:Option Tmp)(hd:op.dst=dst)(h:∀w',Blk w' g (lay L o l)→Only (fun k=>k=g) w w'→K (a.put dst (.int .i64 l.length)) w'):op.wp P a w K Q:=by
 subst hd;obtain⟨w',hr,hb,hO⟩:=J3c w a.eval op x y ho hu hs g o dLen dCap ab ao sLen sCap hx hy L l hg hn hsrc hfit;exact J66 _ w' hr (h w' hb hO)
theorem Jr{fn:Func}{p:Tmp}{ty:TypeId}(h:fn.results=#[.cell p ty])(tmps:Array Value)(w:World)(g off:Nat)(cs:Array Value)(d:TypeDesc)(hp:tmps.getD p undef=.pointer (some ⟨g,off,none⟩))(hu:P.underlying ty=some d)(hd:(match d with | .struct _ | .array _ _=>true | _=>false)=true)(hi:(P.info? ty).map (·.size)=some cs.size)(hc:∀j (h:j<cs.size),w.cell? ⟨g,off+j,none⟩=some cs[j]) :
 (results fn tmps).run P w=.ok (.agg cs) w:=by
 have hp':tmps[p]?.getD undef=.pointer (some ⟨g,off,none⟩):=by simpa using hp
 simp [results,h,hp',asAddr,K8 w g off ty cs d hu hd hi hc]
theorem results_cell_tmp{fn:Func}{p q:Tmp}{ty:TypeId}(h:fn.results=#[.cell p ty,.tmp q])(tmps:Array Value)(w:World)(g off:Nat)(cs:Array Value)(d:TypeDesc)(v:Value)(hp:tmps.getD p undef=.pointer (some ⟨g,off,none⟩))(hv:tmps.getD q undef=v)(hu:P.underlying ty=some d)(hd:(match d with | .struct _ | .array _ _=>true | _=>false)=true)(hi:(P.info? ty).map (·.size)=some cs.size)(hc:∀j (h:j<cs.size),w.cell? ⟨g,off+j,none⟩=some cs[j]) :
 (results fn tmps).run P w=.ok (.tuple #[.agg cs,v]) w:=by
 have hp':tmps[p]?.getD undef=.pointer (some ⟨g,off,none⟩):=by simpa using hp
 have hv':tmps[q]?.getD undef=v:=by simpa using hv
 simp [results,h,hp',hv',asAddr,K8 w g off ty cs d hu hd hi hc]
end
theorem J67(k i:Int):Tryz.prog.built 36 [(0,.int .u8 k),(1,.int .u8 i)]=some (u8s (k::i::zeros 62)).toArray:=by kernel_rfl
theorem k8(k i:Int)(w:World):(Instr.build 36 #[(0,.int .u8 k),(1,.int .u8 i)]).run Tryz.prog w=.ok (.agg (u8s (k::i::zeros 62)).toArray) w:=run_build w 36 _ _ (J67 k i)
theorem Ji(l:List Int):∀v∈(u8s l).toArray,v.oneCell'=true:=fun v hv=>by
 obtain⟨z,_,rfl⟩:=List.mem_map.1 (by simpa using hv);rfl
theorem J2(l:List Int):(u8s l).toArray.size=l.length:=by simp
theorem J3d(b:Bk)(sv:Value)(n:Int)(w:World)(hs:BytesAt w sv b.bytes)(hw:b.Wf)(hg:b.good=false):Calls Tryz.prog 146 #[.agg (b.arr sv),.int .u32 n] w (Zr w (.tuple #[.agg (u8s (zeros 64)).toArray,.int .i64 11])):=by
 have HSZ:=Zh (b.arr_size hw sv);have HW:=Zh hw;have HG:=Zh fun w=>QK b sv hs.len hw w;rw [hg] at HG;go_enter Tryz.func146,Tryz.ntmps146
 repeat (first | (with_reducible refine JL (id:=0) ?_) | go_values | go_skip | go_guarded | go_step | go_upon | go_back)
 refine Stop.mk (wp_region_lit ?_);refine JT rfl rfl ?_;intro wA hA hB hl;refine nm ?_;refine J4 Ka rfl ?_;intro wB hR hB2 hl2;refine nm ?_;refine tk (.int .i64 0) ?_;have H0:Hid (ES w wB w.heap.size wA.heap.size b sv):=Zh ⟨⟨hA.below hB2 hl,HW.out⟩,hR,hB.trans (hB2.mono hB.size),Nat.le_refl _,hl⟩;clear hA hB hl hR hB2 hl2;generalize hgg:w.heap.size=g at *;generalize hrr:wA.heap.size=r at *;have HGG:=Zh hgg;clear hgg hrr wA;refine Zn ?_
 repeat (first | (with_reducible refine JL (id:=1) ?_) | go_values | go_skip | go_guarded | go_step | go_upon | go_back)
 refine Stop.mk (wp_region_lit ?_);refine JF H0.bat.all HSZ.out rfl rfl ?_;refine nm ?_;refine J0 rfl fun K hK=>?_;go_simp;refine (HG.out _).mono ?_;rintro e w1 ⟨rfl,hb⟩;refine hK _ _ (nm ?_);clear hK K;have H1:=Zh (H0.below hb);clear hb H0;refine tk (.bool true) ?_;refine Zn ?_
 repeat (first | (with_reducible refine JL (id:=2) ?_) | go_values | go_skip | go_guarded | go_step | go_upon | go_back)
 refine Stop.mk (wp_region_lit ?_);refine Je (build36 _) rfl ?_;refine nm ?_;refine J3 H1.res (by simp) (by simpa [zeros] using info36) (Ji _) rfl rfl rfl ?_;intro wZ hZ hOZ hlZ;refine nm ?_;refine tk (.int .i64 11) ?_;have HF:=Zh (H1.bel.trans (hOZ.below H1.bel.size (fun k hk=>by have:=H1.g0; have:=H1.gr; omega)));go_wp2_with fail
 refine bodyPost_ret (v:=.tuple #[.agg (u8s (zeros 64)).toArray,.int .i64 11]) (results_cell_tmp rfl _ _ r 0 _ _ _ rfl rfl Tryz.underlying36 rfl (by simpa [zeros] using info36) (hZ.all rfl)) rfl ⟨rfl,HF.out⟩
theorem zP(b:Bk)(sv:Value)(n:Int)(w:World)(hs:BytesAt w sv b.bytes)(hw:b.Wf)(hg:b.good=true)(hk:b.kind=1)(hn:0≤n∧n<4294967296):Calls Tryz.prog 146 #[.agg (b.arr sv),.int .u32 n] w (Zr w (.tuple #[.agg (u8s (b.enc n)).toArray,.int .i64 0])):=by
 have HSZ:=Zh (b.arr_size hw sv);have HW:=Zh hw;have HG:=Zh fun w=>QK b sv hs.len hw w;rw [hg] at HG;obtain⟨hn1,hn2⟩:=hn;obtain⟨_,hi1,hi2⟩:=Qw hg;have HK:=Zh hk;have HL:=Zh (enc_length hg hw n);have HEQ:Hid (Jz (Jz (1::b.id::zeros 62) 2 (le 4 n)) 6 b.page=b.enc n):=Zh (by
  have hp:=hw.page
  simp [Bk.enc,hk,Jz,le,zeros,hp])
 clear hg hk hw;go_enter Tryz.func146,Tryz.ntmps146
 repeat (first | (with_reducible refine JL (id:=0) ?_) | go_values | go_skip | go_guarded | go_step | go_upon | go_back)
 refine Stop.mk (wp_region_lit ?_);refine JT rfl rfl ?_;intro wA hA hB hl;refine nm ?_;refine J4 Ka rfl ?_;intro wB hR hB2 hl2;refine nm ?_;refine tk (.int .i64 0) ?_;have H0:Hid (ES w wB w.heap.size wA.heap.size b sv):=Zh ⟨⟨hA.below hB2 hl,HW.out⟩,hR,hB.trans (hB2.mono hB.size),Nat.le_refl _,hl⟩;clear hA hB hl hR hB2 hl2;generalize hgg:w.heap.size=g at *;generalize hrr:wA.heap.size=r at *;have HGG:=Zh hgg;clear hgg hrr wA;refine Zn ?_
 repeat (first | (with_reducible refine JL (id:=1) ?_) | go_values | go_skip | go_guarded | go_step | go_upon | go_back)
 refine Stop.mk (wp_region_lit ?_);refine JF H0.bat.all HSZ.out rfl rfl ?_;refine nm ?_;refine J0 rfl fun K hK=>?_;go_simp;refine (HG.out _).mono ?_;rintro e w1 ⟨rfl,hb⟩;refine hK _ _ (nm ?_);clear hK K;have H1:=Zh (H0.below hb);clear hb H0;refine tk (.bool false) ?_;refine Zn ?_
 repeat (first | (with_reducible refine JL (id:=3) ?_) | go_values | go_skip | go_guarded | go_step | go_upon | go_back)
 refine Stop.mk (wp_region_lit ?_);have c0:=H1.bat.c0;rw [HK.out] at c0;have c1:=H1.bat.c1;refine tk (.pointer (some ⟨g,0,none⟩)) ?_;refine tk (.int .i64 1) ?_;refine tk (.int .u8 1) ?_ (hr:=by go_simp; rfl);refine tk (.pointer (some ⟨g,1,none⟩)) ?_;refine tk (.int .i64 b.id) ?_;refine tk (.int .u8 b.id) ?_ (hr:=by go_simp; exact y8 (by omega) (by omega));refine tk (.agg (u8s (1::b.id::zeros 62)).toArray) ?_ (hr:=(Jc _ _ _ _ 36 #[(0,.tmp 15),(1,.tmp 18)] rfl #[(0,.int .u8 1),(1,.int .u8 b.id)] (by simp only [List.map_toArray,List.map_cons,List.map_nil]; rfl) _ (k8 1 b.id _)));refine J4 Ka rfl ?_;intro wC hC hBC hlC;refine nm ?_;refine J3 hC (by simp [zeros]) (by simpa [zeros] using info36) (Ji _) rfl rfl rfl ?_;intro wD hD hOD hlD;refine nm ?_;have H2:Hid (ET w wD g r w1.heap.size b sv (1::b.id::zeros 62)):=Zh (ET.mk (H1.below (hBC.trans (hOD.below hBC.size (fun k hk=>Nat.le_of_eq hk.symm)))) hD H1.res.lt);clear c0 c1 hC hBC hlC hD hOD hlD;generalize hss:w1.heap.size=s at *;clear hss;go_wp2_with fail
 refine (put4_any wD s 2 62 _ H2.sec (by simp [zeros]) n ⟨hn1,hn2⟩ ).mono ?_;rintro e w2 ⟨rfl,hb,ho⟩;rw [Qk] at hb;have H3:=Zh (H2.put hb ho);clear hb ho H2;have c0:=H3.es.bat.c0;rw [HK.out] at c0
 go_wp2_with fail
 refine J8 (fun _=>True) (by kernel_rfl) ?_;refine Jj 0 (some 27) (.slice (some ⟨s,6,none⟩) 58 58) rfl rfl (by kernel_rfl) (by kernel_rfl) (by kernel_rfl) (fun _ _ _ h=>h) rfl (fun w _=>by go_simp) trivial ?_;refine nm ?_;refine Jj 1 (some 28) (.pointer (some ⟨g,2,none⟩)) rfl rfl (by kernel_rfl) (by kernel_rfl) (by kernel_rfl) (fun _ _ _ h=>h) rfl (fun w _=>by go_simp) trivial ?_;refine nm ?_;refine Jj 2 (some 29) (.slice (some ⟨g,2,none⟩) 32 32) rfl rfl (by kernel_rfl) (by kernel_rfl) (by kernel_rfl) (fun _ _ _ h=>h) rfl (fun w _=>by go_simp) trivial ?_;refine nm ?_;refine Zo 3 fun K hK=>?_;refine Zj _ _ rfl Tryz.underlying80 X6 s 6 58 58 g 2 32 32 rfl rfl (u8s (Jz (1::b.id::zeros 62) 2 (le 4 n))) b.page H3.drew.sec (by rw [HW.page]; rfl) (fun j v hv=>H3.drew.es.bat.page_at j v hv) (by rw [HW.page]; simp [Jz,zeros,le]) (some 30) rfl fun wC hb ho=>?_;refine hK _ _ trivial (nm ?_);clear hK K;rw [Qk,HEQ.out] at hb;have H4:=Zh (H3.drew.put hb ho);clear hb ho c0;refine Zd ?_
 repeat (first | (with_reducible refine JL (id:=19) ?_) | go_values | go_skip | go_guarded | go_step | go_upon | go_back)
 refine Stop.mk (wp_region_lit ?_);refine Q6 (Blk.all (cs:=(u8s (b.enc n)).toArray) H4.sec rfl) (by rw [J2,HL.out]) rfl rfl ?_;refine nm ?_;refine J3 H4.es.res (by rw [J2,HL.out]; simp [zeros]) (by rw [J2,HL.out]; exact info36) (Ji _) rfl rfl rfl ?_;intro wZ hZ hOZ hlZ;refine nm ?_;refine tk (.int .i64 0) ?_;have HF:=Zh (H4.es.bel.trans (hOZ.below H4.es.bel.size (fun k hk=>by have:=H4.es.g0; have:=H4.es.gr; omega)));go_wp2_with fail
 refine bodyPost_ret (v:=.tuple #[.agg (u8s (b.enc n)).toArray,.int .i64 0]) (results_cell_tmp rfl _ _ r 0 _ _ _ rfl rfl Tryz.underlying36 rfl (by rw [J2,HL.out]; exact info36) ?_) rfl ⟨rfl,HF.out⟩;exact Blk.all (cs:=(u8s (b.enc n)).toArray) hZ rfl
theorem zQ(b:Bk)(sv:Value)(n:Int)(w:World)(hs:BytesAt w sv b.bytes)(hw:b.Wf)(hg:b.good=true)(hk:b.kind=2)(hn:0≤n∧n<4294967296):Calls Tryz.prog 146 #[.agg (b.arr sv),.int .u32 n] w (Zr w (.tuple #[.agg (u8s (b.enc n)).toArray,.int .i64 0])):=by
 have HSZ:=Zh (b.arr_size hw sv);have HW:=Zh hw;have HG:=Zh fun w=>QK b sv hs.len hw w;rw [hg] at HG;obtain⟨hn1,hn2⟩:=hn;obtain⟨_,hi1,hi2⟩:=Qw hg;have HK:=Zh hk;have HL:=Zh (enc_length hg hw n);have HEQ:Hid (Jz (Jz (((Jz (2::b.id::zeros 62) 2 (le 4 n)).set 6 b.off).set 7 b.bytes.length) 8 b.bytes) 24 (le 2 b.prev)=b.enc n):=Zh (by
  rw [zO _ _ _ _ _ (qp hg hk).1.2]
  unfold Bk.enc
  rw [if_neg (by omega),if_pos hk])
 obtain⟨⟨hb1,hb2⟩,⟨ho1,ho2⟩,⟨hp1,hp2⟩,_⟩:=qp hg hk;have HBY:=Zh hs;obtain⟨p,q,cap,hsv,_⟩:=hs.has (by omega);have HSV:=Zh hsv;clear hsv;clear hg hk hw;go_enter Tryz.func146,Tryz.ntmps146
 repeat (first | (with_reducible refine JL (id:=0) ?_) | go_values | go_skip | go_guarded | go_step | go_upon | go_back)
 refine Stop.mk (wp_region_lit ?_);refine JT rfl rfl ?_;intro wA hA hB hl;refine nm ?_;refine J4 Ka rfl ?_;intro wB hR hB2 hl2;refine nm ?_;refine tk (.int .i64 0) ?_;have H0:Hid (ES w wB w.heap.size wA.heap.size b sv):=Zh ⟨⟨hA.below hB2 hl,HW.out⟩,hR,hB.trans (hB2.mono hB.size),Nat.le_refl _,hl⟩;clear hA hB hl hR hB2 hl2;generalize hgg:w.heap.size=g at *;generalize hrr:wA.heap.size=r at *;have HGG:=Zh hgg;clear hgg hrr wA;refine Zn ?_
 repeat (first | (with_reducible refine JL (id:=1) ?_) | go_values | go_skip | go_guarded | go_step | go_upon | go_back)
 refine Stop.mk (wp_region_lit ?_);refine JF H0.bat.all HSZ.out rfl rfl ?_;refine nm ?_;refine J0 rfl fun K hK=>?_;go_simp;refine (HG.out _).mono ?_;rintro e w1 ⟨rfl,hb⟩;refine hK _ _ (nm ?_);clear hK K;have H1:=Zh (H0.below hb);clear hb H0;refine tk (.bool false) ?_;refine Zn ?_
 repeat (first | (with_reducible refine JL (id:=3) ?_) | go_values | go_skip | go_guarded | go_step | go_upon | go_back)
 refine Stop.mk (wp_region_lit ?_);have c0:=H1.bat.c0;rw [HK.out] at c0;have c1:=H1.bat.c1;refine tk (.pointer (some ⟨g,0,none⟩)) ?_;refine tk (.int .i64 2) ?_;refine tk (.int .u8 2) ?_ (hr:=by go_simp; rfl);refine tk (.pointer (some ⟨g,1,none⟩)) ?_;refine tk (.int .i64 b.id) ?_;refine tk (.int .u8 b.id) ?_ (hr:=by go_simp; exact y8 (by omega) (by omega));refine tk (.agg (u8s (2::b.id::zeros 62)).toArray) ?_ (hr:=(Jc _ _ _ _ 36 #[(0,.tmp 15),(1,.tmp 18)] rfl #[(0,.int .u8 2),(1,.int .u8 b.id)] (by simp only [List.map_toArray,List.map_cons,List.map_nil]; rfl) _ (k8 2 b.id _)));refine J4 Ka rfl ?_;intro wC hC hBC hlC;refine nm ?_;refine J3 hC (by simp [zeros]) (by simpa [zeros] using info36) (Ji _) rfl rfl rfl ?_;intro wD hD hOD hlD;refine nm ?_;have H2:Hid (ET w wD g r w1.heap.size b sv (2::b.id::zeros 62)):=Zh (ET.mk (H1.below (hBC.trans (hOD.below hBC.size (fun k hk=>Nat.le_of_eq hk.symm)))) hD H1.res.lt);clear c0 c1 hC hBC hlC hD hOD hlD;generalize hss:w1.heap.size=s at *;clear hss;go_wp2_with fail
 refine (put4_any wD s 2 62 _ H2.sec (by simp [zeros]) n ⟨hn1,hn2⟩ ).mono ?_;rintro e w2 ⟨rfl,hb,ho⟩;rw [Qk] at hb;have H3:=Zh (H2.put hb ho);clear hb ho H2;have c0:=H3.es.bat.c0;rw [HK.out] at c0;simp only []
 repeat (first | (with_reducible refine JL (id:=9) ?_) | go_values | go_skip | go_guarded | go_step | go_upon | go_back)
 refine Stop.mk (wp_region_lit ?_);have c34:=H3.es.bat.c34;have hc:=H3.sec.cell (i:=6) (v:=.int .u8 0) (by simp [Jz,zeros,le]);have hf:=H3.sec.frozen 6;refine tk (.pointer (some ⟨g,34,none⟩)) ?_;refine tk (.int .i64 b.off) ?_;refine tk (.int .u8 b.off) ?_ (hr:=by go_simp; exact y8 (by omega) (by omega));refine tk (.pointer (some ⟨s,6,none⟩)) ?_;refine Xr (w2.setCell ⟨s,6,none⟩ (.int .u8 b.off)) rfl (by go_simp) ?_;refine nm ?_;have H4:=Zh (H3.set 6 b.off);clear c34 hc hf c0 H3;generalize w2.setCell ⟨s,6,none⟩ (.int .u8 b.off)=w3 at *;refine Zn ?_
 repeat (first | (with_reducible refine JL (id:=10) ?_) | go_values | go_skip | go_guarded | go_step | go_upon | go_back)
 refine Stop.mk (wp_region_lit ?_);have c35:=H4.es.bat.c35;rw [HSV.out] at c35;have hc:=H4.sec.cell (i:=7) (v:=.int .u8 0) (by simp [Jz,zeros,le]);have hf:=H4.sec.frozen 7;refine tk (.pointer (some ⟨g,35,none⟩)) ?_;refine tk (.slice (some ⟨p,q,none⟩) b.bytes.length cap) ?_;refine tk (.int .i64 b.bytes.length) ?_;refine tk (.int .u8 b.bytes.length) ?_ (hr:=by go_simp; exact y8 (by omega) (by omega));refine tk (.pointer (some ⟨s,7,none⟩)) ?_;refine Xr (w3.setCell ⟨s,7,none⟩ (.int .u8 b.bytes.length)) rfl (by go_simp) ?_;refine nm ?_;have H5:=Zh (H4.set 7 b.bytes.length);clear c35 hc hf H4;generalize w3.setCell ⟨s,7,none⟩ (.int .u8 b.bytes.length)=w4 at *;go_wp2_with fail
 have c35:=H5.drew.es.bat.c35;rw [HSV.out] at c35;refine J8 (fun wq=>wq.cell? ⟨g,35,none⟩=some (.slice (some ⟨p,q,none⟩) b.bytes.length cap)) (by kernel_rfl) ?_;refine Jj 0 (some 42) (.slice (some ⟨s,8,none⟩) 16 56) rfl rfl (by kernel_rfl) (by kernel_rfl) (by kernel_rfl) (fun _ _ _ h=>h) rfl (fun w _=>by go_simp) c35 ?_;refine nm ?_;refine Jj 1 (some 43) (.pointer (some ⟨g,35,none⟩)) rfl rfl (by kernel_rfl) (by kernel_rfl) (by kernel_rfl) (fun _ _ _ h=>h) rfl (fun w _=>by go_simp) c35 ?_;refine nm ?_;refine Jj 2 (some 44) (.slice (some ⟨p,q,none⟩) b.bytes.length cap) rfl rfl (by kernel_rfl) (by kernel_rfl) (by kernel_rfl) (fun _ _ _ h=>h) rfl (fun w hS=>by go_simp) c35 ?_;refine nm ?_;refine Zo 3 fun K hK=>?_;have HBB:=HBY.below (H5.drew.es.bel);obtain⟨p',q',cap',hsv',hsrc⟩:=HBB.has (by omega);rw [HSV.out] at hsv';cases hsv';refine Zj _ _ rfl Tryz.underlying80 X6 s 8 16 56 p q b.bytes.length cap rfl rfl (u8s (((Jz (2::b.id::zeros 62) 2 (le 4 n)).set 6 b.off).set 7 b.bytes.length)) b.bytes H5.drew.sec (Nat.min_eq_left hb2).symm hsrc (by simp [Jz,zeros,le]; omega) (some 45) rfl fun wC hb ho=>?_;rw [Qk] at hb;have H6:=Zh (H5.drew.put hb ho);have c35':=H6.es.bat.c35;rw [HSV.out] at c35';refine hK _ _ c35' ?_;clear hK K c35 c35' hb ho hsrc HBB H5;refine nm ?_;refine Zd ?_
 go_wp2_with fail
 have c36:=H6.drew.es.bat.c36;refine J8 (fun wq=>wq.cell? ⟨g,36,none⟩=some (.int .i64 b.prev)) (by kernel_rfl) ?_;refine Jj 0 (some 46) (.slice (some ⟨s,24,none⟩) 2 40) rfl rfl (by kernel_rfl) (by kernel_rfl) (by kernel_rfl) (fun _ _ _ h=>h) rfl (fun w _=>by go_simp) c36 ?_;refine nm ?_;refine Jj 1 (some 47) (.pointer (some ⟨g,36,none⟩)) rfl rfl (by kernel_rfl) (by kernel_rfl) (by kernel_rfl) (fun _ _ _ h=>h) rfl (fun w _=>by go_simp) c36 ?_;refine nm ?_;refine Jj 2 (some 48) (.int .i64 b.prev) rfl rfl (by kernel_rfl) (by kernel_rfl) (by kernel_rfl) (fun _ _ _ h=>h) rfl (fun w hS=>by go_simp) c36 ?_;refine nm ?_;refine Jj 3 (some 49) (.int .u32 b.prev) rfl rfl (by kernel_rfl) (by kernel_rfl) (by kernel_rfl) (fun _ _ _ h=>h) rfl (fun w hS=>by go_simp; exact jZ (by omega) (by omega)) c36 ?_;refine nm ?_;refine Zo 4 fun K hK=>?_;go_simp;refine (put2_any _ s 24 40 _ H6.drew.sec (by simp [Jz,zeros,le]; omega) b.prev ⟨by omega,by omega⟩).mono ?_;rintro e w6 ⟨rfl,hb,ho⟩;rw [Qk,HEQ.out] at hb;have H7:=Zh (H6.drew.put hb ho);refine hK _ _ H7.es.bat.c36 ?_;clear hK K c36 hb ho H6;refine nm ?_;refine Zd ?_
 repeat (first | (with_reducible refine JL (id:=19) ?_) | go_values | go_skip | go_guarded | go_step | go_upon | go_back)
 refine Stop.mk (wp_region_lit ?_);refine Q6 (Blk.all (cs:=(u8s (b.enc n)).toArray) H7.sec rfl) (by rw [J2,HL.out]) rfl rfl ?_;refine nm ?_;refine J3 H7.es.res (by rw [J2,HL.out]; simp [zeros]) (by rw [J2,HL.out]; exact info36) (Ji _) rfl rfl rfl ?_;intro wZ hZ hOZ hlZ;refine nm ?_;refine tk (.int .i64 0) ?_;have HF:=Zh (H7.es.bel.trans (hOZ.below H7.es.bel.size (fun k hk=>by have:=H7.es.g0; have:=H7.es.gr; omega)));go_wp2_with fail
 refine bodyPost_ret (v:=.tuple #[.agg (u8s (b.enc n)).toArray,.int .i64 0]) (results_cell_tmp rfl _ _ r 0 _ _ _ rfl rfl Tryz.underlying36 rfl (by rw [J2,HL.out]; exact info36) ?_) rfl ⟨rfl,HF.out⟩;exact Blk.all (cs:=(u8s (b.enc n)).toArray) hZ rfl
theorem zR(b:Bk)(sv:Value)(n:Int)(w:World)(hs:BytesAt w sv b.bytes)(hw:b.Wf)(hg:b.good=true)(hk:b.kind=3)(hn:0≤n∧n<4294967296):Calls Tryz.prog 146 #[.agg (b.arr sv),.int .u32 n] w (Zr w (.tuple #[.agg (u8s (b.enc n)).toArray,.int .i64 0])):=by
 have HSZ:=Zh (b.arr_size hw sv);have HW:=Zh hw;have HG:=Zh fun w=>QK b sv hs.len hw w;rw [hg] at HG;obtain⟨hn1,hn2⟩:=hn;obtain⟨_,hi1,hi2⟩:=Qw hg;have HK:=Zh hk;have HL:=Zh (enc_length hg hw n);have HEQ:Hid (Jz (Jz (3::b.id::zeros 62) 2 (le 4 n)) 6 (b.heads.flatMap (le 2))=b.enc n):=Zh (by
  have hh:=flat_length b.heads
  rw [hw.heads] at hh
  unfold Bk.enc
  rw [if_neg (by omega),if_neg (by omega)]
  generalize b.heads.flatMap (le 2)=F at hh ⊢
  simp [Jz,le,zeros,hh])
 obtain⟨hhs,_⟩:=Jdw hg hk;have HHS:=Zh hhs;have hh8:(Jq b.heads).toArray.size=8:=by simpa using hw.heads
 have HIX:=Zh fun (j:Nat) (x:Int) (hx:b.heads[j]? = some x) (w:World)=>jJ w b.heads hw.heads j x hx;clear hhs;clear hg hk hw;go_enter Tryz.func146,Tryz.ntmps146
 repeat (first | (with_reducible refine JL (id:=0) ?_) | go_values | go_skip | go_guarded | go_step | go_upon | go_back)
 refine Stop.mk (wp_region_lit ?_);refine JT rfl rfl ?_;intro wA hA hB hl;refine nm ?_;refine J4 Ka rfl ?_;intro wB hR hB2 hl2;refine nm ?_;refine tk (.int .i64 0) ?_;have H0:Hid (ES w wB w.heap.size wA.heap.size b sv):=Zh ⟨⟨hA.below hB2 hl,HW.out⟩,hR,hB.trans (hB2.mono hB.size),Nat.le_refl _,hl⟩;clear hA hB hl hR hB2 hl2;generalize hgg:w.heap.size=g at *;generalize hrr:wA.heap.size=r at *;have HGG:=Zh hgg;clear hgg hrr wA;refine Zn ?_
 repeat (first | (with_reducible refine JL (id:=1) ?_) | go_values | go_skip | go_guarded | go_step | go_upon | go_back)
 refine Stop.mk (wp_region_lit ?_);refine JF H0.bat.all HSZ.out rfl rfl ?_;refine nm ?_;refine J0 rfl fun K hK=>?_;go_simp;refine (HG.out _).mono ?_;rintro e w1 ⟨rfl,hb⟩;refine hK _ _ (nm ?_);clear hK K;have H1:=Zh (H0.below hb);clear hb H0;refine tk (.bool false) ?_;refine Zn ?_
 repeat (first | (with_reducible refine JL (id:=3) ?_) | go_values | go_skip | go_guarded | go_step | go_upon | go_back)
 refine Stop.mk (wp_region_lit ?_);have c0:=H1.bat.c0;rw [HK.out] at c0;have c1:=H1.bat.c1;refine tk (.pointer (some ⟨g,0,none⟩)) ?_;refine tk (.int .i64 3) ?_;refine tk (.int .u8 3) ?_ (hr:=by go_simp; rfl);refine tk (.pointer (some ⟨g,1,none⟩)) ?_;refine tk (.int .i64 b.id) ?_;refine tk (.int .u8 b.id) ?_ (hr:=by go_simp; exact y8 (by omega) (by omega));refine tk (.agg (u8s (3::b.id::zeros 62)).toArray) ?_ (hr:=(Jc _ _ _ _ 36 #[(0,.tmp 15),(1,.tmp 18)] rfl #[(0,.int .u8 3),(1,.int .u8 b.id)] (by simp only [List.map_toArray,List.map_cons,List.map_nil]; rfl) _ (k8 3 b.id _)));refine J4 Ka rfl ?_;intro wC hC hBC hlC;refine nm ?_;refine J3 hC (by simp [zeros]) (by simpa [zeros] using info36) (Ji _) rfl rfl rfl ?_;intro wD hD hOD hlD;refine nm ?_;have H2:Hid (ET w wD g r w1.heap.size b sv (3::b.id::zeros 62)):=Zh (ET.mk (H1.below (hBC.trans (hOD.below hBC.size (fun k hk=>Nat.le_of_eq hk.symm)))) hD H1.res.lt);clear c0 c1 hC hBC hlC hD hOD hlD;generalize hss:w1.heap.size=s at *;clear hss;go_wp2_with fail
 refine (put4_any wD s 2 62 _ H2.sec (by simp [zeros]) n ⟨hn1,hn2⟩ ).mono ?_;rintro e w2 ⟨rfl,hb,ho⟩;rw [Qk] at hb;have H3:=Zh (H2.put hb ho);clear hb ho H2;have c0:=H3.es.bat.c0;rw [HK.out] at c0;simp only []
 repeat (first | (with_reducible refine JL (id:=14) ?_) | go_values | go_skip | go_guarded | go_step | go_upon | go_back)
 refine Stop.mk (wp_region_lit ?_);refine tk (.pointer (some ⟨g,37,none⟩)) ?_;refine XA (cs:=(Jq b.heads).toArray) H3.es.bat.heads hh8 rfl rfl ?_;refine nm ?_;refine tk (.int .i64 0) ?_;refine Zn ?_;clear c0
 go_wp2_with fail
 go_loopg [55] 8 (fun q i wr=>∃k:Nat,8-k≤q∧k≤8∧i=.int .i64 k∧ET w wr g r s b sv (Jz (Jz (3::b.id::zeros 62) 2 (le 4 n)) 6 ((b.heads.take k).flatMap (le 2))))
 case atStart=>exact⟨0,by omega,by omega,rfl,by rw [List.take_zero,List.flatMap_nil,J65]; exact H3.out⟩
 case round =>
  obtain⟨k,hg,hk,rfl,het⟩:=hrel;have HE:=Zh het;clear het
  by_cases hlt:k<8
  · obtain⟨x,hx⟩:∃x,b.heads[k]? = some x:=⟨_,List.getElem?_eq_getElem (by rw [HW.heads]; exact hlt)⟩
    have h3:=HIX.out k x hx;obtain⟨hx1,hx2⟩:=HHS.out x (List.mem_of_getElem? hx);have HX:=Zh hx;clear hx;have HLK:Hid ((Jz (Jz (3::b.id::zeros 62) 2 (le 4 n)) 6 ((b.heads.take k).flatMap (le 2))).length=64∧((b.heads.take k).flatMap (le 2)).length=2*k):=Zh (by
     have hf:=flat_length (b.heads.take k)
     rw [List.length_take,HW.heads,Nat.min_eq_left hk] at hf
     refine⟨?_,hf⟩
     rw [Yg (by rw [hf]; simp [Jz,zeros,le]; omega)]
     simp [Jz,zeros,le])
    have HNX:Hid (Jz (Jz (Jz (3::b.id::zeros 62) 2 (le 4 n)) 6 ((b.heads.take k).flatMap (le 2))) (6+2*k) (le 2 x)=Jz (Jz (3::b.id::zeros 62) 2 (le 4 n)) 6 ((b.heads.take (k+1)).flatMap (le 2))):=Zh (by
     have:=J3a (L:=Jz (3::b.id::zeros 62) 2 (le 4 n)) (o:=6) (bs:=(b.heads.take k).flatMap (le 2)) (cs:=le 2 x) (by rw [HLK.out.2,J6]; simp [Jz,zeros,le]; omega)
     rw [HLK.out.2] at this
     rw [this,List.take_add_one,HX.out]
     simp)
    go_wp2_with fail
    refine (jX wr s k hlt).mono ?_;rintro e w6 ⟨rfl,rfl⟩
    go_wp2_with fail
    refine (put2_any wr s (6+2*k) (64-(6+2*k)) _ HE.sec (by have:=HLK.out.1; simp only [List.length_map]; omega) x ⟨by omega,by omega⟩).mono ?_;rintro e w7 ⟨rfl,hb,ho⟩;rw [Qk,HNX.out] at hb;have HE2:=Zh (HE.put hb ho);clear hb ho
    go_wp2_with fail
    go_roundg (8-(k+1))
    case measure=>omega
    case rel=>exact⟨k+1,by omega,by omega,by go_num,HE2.out⟩
  · have H9:Hid (ET w wr g r s b sv (b.enc n)):=Zh (by
     obtain rfl:k=8:=by omega
     have:=HE.out
     rwa [List.take_of_length_le (by rw [HW.heads]; omega),HEQ.out] at this)
    have hk8:k=8:=by omega
    clear HE;subst hk8
    repeat (first | (with_reducible refine JL (id:=19) ?_) | go_values | go_skip | go_guarded | go_step | go_upon | go_back)
    refine Stop.mk (wp_region_lit ?_);refine Q6 (Blk.all (cs:=(u8s (b.enc n)).toArray) H9.sec rfl) (by rw [J2,HL.out]) rfl rfl ?_;refine nm ?_;refine J3 H9.es.res (by rw [J2,HL.out]; simp [zeros]) (by rw [J2,HL.out]; exact info36) (Ji _) rfl rfl rfl ?_;intro wZ hZ hOZ hlZ;refine nm ?_;refine tk (.int .i64 0) ?_;have HF:=Zh (H9.es.bel.trans (hOZ.below H9.es.bel.size (fun k hk=>by have:=H9.es.g0; have:=H9.es.gr; omega)));go_wp2_with fail
    refine bodyPost_ret (v:=.tuple #[.agg (u8s (b.enc n)).toArray,.int .i64 0]) (results_cell_tmp rfl _ _ r 0 _ _ _ rfl rfl Tryz.underlying36 rfl (by rw [J2,HL.out]; exact info36) ?_) rfl ⟨rfl,HF.out⟩;exact Blk.all (cs:=(u8s (b.enc n)).toArray) hZ rfl
theorem k9(b:Bk)(sv:Value)(n:Int)(w:World)(hs:BytesAt w sv b.bytes)(hw:b.Wf)(hn:0≤n∧n<4294967296):Calls Tryz.prog 146 #[.agg (b.arr sv),.int .u32 n] w (Zr w (.tuple #[.agg (u8s (b.sec n)).toArray,.int .i64 b.err])):=by
 unfold Bk.sec Bk.err;cases hg:b.good
 · simp only [Bool.false_eq_true,if_false];exact J3d b sv n w hs hw hg
 · simp only [if_true];rcases (Qw hg).1 with k | k | k
   · exact zP b sv n w hs hw hg k hn
   · exact zQ b sv n w hs hw hg k hn
   · exact zR b sv n w hs hw hg k hn
def Fresh(B:Nat)(sv:Value):Prop:=∀b o n c,sv=.slice (some ⟨b,o,none⟩) n c→B≤b
theorem Fresh.nil(B:Nat):Fresh B (.slice none 0 0):=fun _ _ _ _ h=>by cases h
theorem zS(n:Nat)(l:List Int):Jz (zeros n) 0 l=l++zeros (n-l.length):=by simp [Jz,zeros]
theorem Jg(dst:Option Tmp)(hd:o.dst=dst)(v:Value)(w':World)(hr:(execOp a.eval o).run P w=.ok (.value v) w')(h:K (a.put dst v) w'):o.wp P a w K Q:=by
 subst hd;exact J66 v w' hr h
theorem q9{S:World→Prop}(i j:Nat){p:Oper}(hr:Region.ready md ops listed=[i,j])(hi:ops[i]? = some o)(hj:ops[j]? = some p)(hw:Region.wanted o (yielded ops a.tmps)=true)(hx:Region.wanted p (yielded ops a.tmps)=true)(h:∀K:Act→World→Prop,(∀a w,S w→wpAnyH P md ops Q S fuel (listed.setIfInBounds i true) a w→K a w)→Oper.wp P o a w K Q)(k:∀K:Act→World→Prop,(∀a w,S w→wpAnyH P md ops Q S fuel (listed.setIfInBounds j true) a w→K a w)→Oper.wp P p a w K Q):wpAnyH P md ops Q S (fuel+1) listed a w :=
 wpAnyH_all hr (by simp) fun m hm=>by
  rcases (show m=i∨m=j by simpa using hm) with rfl | rfl
  · exact wpOp_step hi fun K hK=>by rw [if_pos hw]; exact h K fun a w hS hA=>hK a w ⟨hS,hA⟩
  · exact wpOp_step hj fun K hK=>by rw [if_pos hx]; exact k K fun a w hS hA=>hK a w ⟨hS,hA⟩
theorem none_wf:Bk.none.Wf:=⟨Kb,Kb,Kb,Kb,rfl,fun x hx=>by rw [List.eq_of_mem_replicate hx]; exact⟨by decide,by decide⟩,by decide,fun x hx=>by simp [Bk.none] at hx,rfl,fun x hx=>by rw [List.eq_of_mem_replicate hx]; exact Kb⟩
theorem BytesAt.only{t:Nat}(h:BytesAt w sv l)(ho:Only (fun k=>k=t) w w')(ht:∀b o n c,sv=.slice (some ⟨b,o,none⟩) n c→b≠t):BytesAt w' sv l:=by
 obtain⟨a,cap,e,hc⟩:=h;refine⟨a,cap,e,fun i x hx=>?_⟩;obtain⟨b,o,e2,hx2⟩:=hc i x hx;refine⟨b,o,e2,?_⟩;have hne:b≠t:=ht b o _ _ (by rw [e,e2]);have hb:=ho.block b (block_lt_of_cell hx2) hne;rw [←hx2];simp only [World.cell?,hb]
theorem BytesAt.lt(h:BytesAt w sv l)(hl:0<l.length){o:Nat}(e:sv=.slice (some ⟨b,o,none⟩) n c):b<w.heap.size:=by
 obtain⟨b',o',c',e',hc⟩:=h.has hl;rw [e] at e';cases e';exact block_lt_of_cell (hc 0 l[0] (by simp [hl]))
theorem Kt{row:Option Nat}(h:w.grownBy w' row)(hB:B≤w.heap.size)(hr:∀k,row=some k→B≤k):Below B w w' :=
 ⟨h.os,h.tape,h.output,h.size,fun k hk=>h.block k (by omega) fun e=>by have:=hr k e.symm; omega⟩
section
variable {P:Program}
theorem Ql(ev:Operand→Value)(op:Oper)(x y:Operand)(t1 t2:TypeId)(ho:op.op=.call { callee:=.builtin .append,args:=#[x,y],argTypes:=#[t1,t2] })(vx vy v':Value)(hx:ev x=vx)(hy:ev y=vy)(hr:(Builtin.append_ #[t1,t2] op.type #[vx,vy]).run P w=.ok v' w'):(execOp ev op).run P w=.ok (.value v') w':=by
 unfold execOp;simp only [ho,resolve,invoke,builtin,Sem.run_bind,Sem.run_pure,Result.andThen_ok,List.map_toArray,List.map_cons,List.map_nil,hx,hy,hr]
end
open Go.RowKit
variable {B b:Nat} {cs:Array Value} {w w' w1 w2:World}
namespace Pl
open Go.RowKit
structure Gm where
 p:Int
 s:Int
 l:Int
 f:Int
def Gm.Ok(g:Gm):Prop:=(1≤g.p∧g.p≤64)∧(6≤g.s∧g.s≤16)∧(24≤g.l∧g.l≤32)∧(2≤g.f∧g.f≤16)
abbrev Gm.v(g:Gm):Value:=.agg #[.int .i64 g.p,.int .i64 g.s,.int .i64 g.l,.int .i64 g.f]
theorem KG(n a b:Int)(h:a≤n∧n≤b)(w:World):Calls Tryz.prog 87 #[.int .i64 n,.int .i64 a,.int .i64 b] w fun e w'=>e=.returned (.bool true)∧w=w':=by
 obtain⟨h1,h2⟩:=h;go_enter Tryz.func87,Tryz.ntmps87
 go_wp2_with fail
 go_ret;exact⟨rfl,rfl⟩
theorem XK(n a b:Int)(h:¬(a≤n∧n≤b))(w:World):Calls Tryz.prog 87 #[.int .i64 n,.int .i64 a,.int .i64 b] w fun e w'=>e=.returned (.bool false)∧w=w':=by
 by_cases h1:a≤n
 · have h2:¬n≤b:=fun h2=>h ⟨h1,h2⟩;clear h;go_enter Tryz.func87,Tryz.ntmps87
   go_wp2_with fail
   go_ret;exact⟨rfl,rfl⟩
 · clear h;go_enter Tryz.func87,Tryz.ntmps87
   go_wp2_with fail
   go_ret;exact⟨rfl,rfl⟩
theorem JS(g:Gm)(h:g.Ok)(w:World):Calls Tryz.prog 55 #[g.v] w (Zr w (.bool true)):=by
 obtain⟨h1,h2,h3,h4⟩:=h;have H1:=Zh fun w=>KG g.p 1 64 h1 w;have H2:=Zh fun w=>KG g.s 6 16 h2 w;have H3:=Zh fun w=>KG g.l 24 32 h3 w;have H4:=Zh fun w=>KG g.f 2 16 h4 w;clear h1 h2 h3 h4;go_enter Tryz.func55,Tryz.ntmps55
 go_wp2_with fail
 refine (H1.out _).mono ?_;rintro e w1 ⟨rfl,rfl⟩
 go_wp2_with fail
 refine (H2.out _).mono ?_;rintro e w1 ⟨rfl,rfl⟩
 go_wp2_with fail
 refine (H3.out _).mono ?_;rintro e w1 ⟨rfl,rfl⟩
 go_wp2_with fail
 refine (H4.out _).mono ?_;rintro e w1 ⟨rfl,rfl⟩
 go_wp2_with fail
 go_ret;exact⟨rfl,(Below.refl _ _).alloc (Nat.le_refl _) _⟩
theorem Zk(g:Gm)(h:¬g.Ok)(w:World):Calls Tryz.prog 55 #[g.v] w (Zr w (.bool false)):=by
 by_cases h1:1≤g.p∧g.p≤64
 · have H1:=Zh fun w=>KG g.p 1 64 h1 w
   by_cases h2:6≤g.s∧g.s≤16
   · have H2:=Zh fun w=>KG g.s 6 16 h2 w
     by_cases h3:24≤g.l∧g.l≤32
     · have H3:=Zh fun w=>KG g.l 24 32 h3 w;have H4:=Zh fun w=>XK g.f 2 16 (fun h4=>h ⟨h1,h2,h3,h4⟩) w;clear h1 h2 h3 h;go_enter Tryz.func55,Tryz.ntmps55
       go_wp2_with fail
       refine (H1.out _).mono ?_;rintro e w1 ⟨rfl,rfl⟩
       go_wp2_with fail
       refine (H2.out _).mono ?_;rintro e w1 ⟨rfl,rfl⟩
       go_wp2_with fail
       refine (H3.out _).mono ?_;rintro e w1 ⟨rfl,rfl⟩
       go_wp2_with fail
       refine (H4.out _).mono ?_;rintro e w1 ⟨rfl,rfl⟩
       go_wp2_with fail
       go_ret;exact⟨rfl,(Below.refl _ _).alloc (Nat.le_refl _) _⟩
     · have H3:=Zh fun w=>XK g.l 24 32 h3 w;clear h1 h2 h3 h;go_enter Tryz.func55,Tryz.ntmps55
       go_wp2_with fail
       refine (H1.out _).mono ?_;rintro e w1 ⟨rfl,rfl⟩
       go_wp2_with fail
       refine (H2.out _).mono ?_;rintro e w1 ⟨rfl,rfl⟩
       go_wp2_with fail
       refine (H3.out _).mono ?_;rintro e w1 ⟨rfl,rfl⟩
       go_wp2_with fail
       go_ret;exact⟨rfl,(Below.refl _ _).alloc (Nat.le_refl _) _⟩
   · have H2:=Zh fun w=>XK g.s 6 16 h2 w;clear h1 h2 h;go_enter Tryz.func55,Tryz.ntmps55
     go_wp2_with fail
     refine (H1.out _).mono ?_;rintro e w1 ⟨rfl,rfl⟩
     go_wp2_with fail
     refine (H2.out _).mono ?_;rintro e w1 ⟨rfl,rfl⟩
     go_wp2_with fail
     go_ret;exact⟨rfl,(Below.refl _ _).alloc (Nat.le_refl _) _⟩
 · have H1:=Zh fun w=>XK g.p 1 64 h1 w;clear h1 h;go_enter Tryz.func55,Tryz.ntmps55
   go_wp2_with fail
   refine (H1.out _).mono ?_;rintro e w1 ⟨rfl,rfl⟩
   go_wp2_with fail
   go_ret;exact⟨rfl,(Below.refl _ _).alloc (Nat.le_refl _) _⟩
theorem Z1(g:Gm)(w:World):Calls Tryz.prog 88 #[g.v,.int .i64 1] w (Zr w (.int .i64 4)):=by
 go_enter Tryz.func88,Tryz.ntmps88
 go_wp2_with fail
 go_ret;exact⟨rfl,(Below.refl _ _).alloc (Nat.le_refl _) _⟩
theorem jK{a b:Int}(h:a=b):Ending.returned (.int .i64 a)=Ending.returned (.int .i64 b):=congrArg (fun n=>Ending.returned (.int .i64 n)) h
theorem qq{a b A B:Int}(h0:0≤a)(h1:a≤A)(k0:0≤b)(k1:b≤B):0≤a*b∧a*b≤A*B :=
 ⟨Int.mul_nonneg h0 k0,Int.mul_le_mul h1 k1 k0 (by omega)⟩
theorem Gm.Ok.area{g:Gm}(h:g.Ok):0≤g.s*g.l∧g.s*g.l≤512:=by
 obtain⟨_,⟨h3,h4⟩,⟨h5,h6⟩,_⟩:=h;exact qq (by omega) h4 (by omega) h6
theorem XU(g:Gm)(h:g.Ok)(w:World):Calls Tryz.prog 88 #[g.v,.int .i64 2] w (Zr w (.int .i64 (4+g.s*g.l))):=by
 obtain⟨a0,a1⟩:=h.area;go_enter Tryz.func88,Tryz.ntmps88
 go_wp2_with fail
 go_ret;exact⟨jK (by omega),(Below.refl _ _).alloc (Nat.le_refl _) _⟩
structure GAt (w:World) (b:Nat) (g:Gm):Prop where
 p:w.cell? ⟨b,0,none⟩=some (.int .i64 g.p)
 s:w.cell? ⟨b,1,none⟩=some (.int .i64 g.s)
 l:w.cell? ⟨b,2,none⟩=some (.int .i64 g.l)
 f:w.cell? ⟨b,3,none⟩=some (.int .i64 g.f)
theorem GAt.below{g:Gm}(h:GAt w b g)(hb:Below B w w')(hlt:b<B):GAt w' b g :=
 ⟨(hb.cell hlt).trans h.p,(hb.cell hlt).trans h.s,(hb.cell hlt).trans h.l,(hb.cell hlt).trans h.f⟩
abbrev Gm.box(g:Gm)(w:World):World:=w.alloc (.cells #[.int .i64 g.p,.int .i64 g.s,.int .i64 g.l,.int .i64 g.f] 23)
theorem GAt.box(g:Gm)(w:World):GAt (g.box w) w.heap.size g:=by
 have h:(g.box w).heap[w.heap.size]? = some (.cells #[.int .i64 g.p,.int .i64 g.s,.int .i64 g.l,.int .i64 g.f] 23 (0,0)):=heap_alloc_new w _;exact⟨cell_of_row _ _ 0 _ _ _ h,cell_of_row _ _ 1 _ _ _ h,cell_of_row _ _ 2 _ _ _ h,cell_of_row _ _ 3 _ _ _ h⟩
theorem box_below(g:Gm)(w:World):Below w.heap.size w (g.box w):=(Below.refl _ _).alloc (Nat.le_refl _) _
theorem KS{g:Gm}(hb:Below (g.box w).heap.size (g.box w) w1):Below w.heap.size w w1∧GAt w1 w.heap.size g∧w.heap.size<w1.heap.size :=
 ⟨(box_below g w).trans (hb.mono (by simp)),(GAt.box g w).below hb (by simp),Nat.lt_of_lt_of_le (by simp) hb.size⟩
theorem Zm{g:Gm}(h:Below w.heap.size w w1∧GAt w1 b g∧b<w1.heap.size)(hb:Below w1.heap.size w1 w2):Below w.heap.size w w2∧GAt w2 b g∧b<w2.heap.size :=
 ⟨h.1.trans (hb.mono h.1.size),h.2.1.below hb h.2.2,Nat.lt_of_lt_of_le h.2.2 hb.size⟩
def Gm.maps(g:Gm):Int:=(g.p+7).tdiv 8
theorem J68(g:Gm)(h:¬g.Ok)(w:World):Calls Tryz.prog 57 #[g.v] w (Zr w (.int .i64 0)):=by
 have H:=Zh fun w=>Zk g h w;clear h;go_enter Tryz.func57,Tryz.ntmps57
 go_wp2_with fail
 refine (H.out _).mono ?_;rintro e w1 ⟨rfl,hb⟩;have HB:=Zh (KS hb);clear hb
 go_wp2_with fail
 go_ret;exact⟨rfl,HB.out.1⟩
theorem Qy(g:Gm)(h:g.Ok)(w:World):Calls Tryz.prog 57 #[g.v] w (Zr w (.int .i64 (4+g.s*g.l))):=by
 have H:=Zh fun w=>JS g h w;have H2:=Zh fun w=>XU g h w;clear h;go_enter Tryz.func57,Tryz.ntmps57
 go_wp2_with fail
 refine (H.out _).mono ?_;rintro e w1 ⟨rfl,hb⟩;have HB:=Zh (KS hb);clear hb;obtain⟨c0,c1,c2,c3⟩:=HB.out.2.1
 go_wp2_with fail
 refine (H2.out _).mono ?_;rintro e w2 ⟨rfl,hb⟩;have HB2:=Zh (Zm HB.out hb);clear hb
 go_wp2_with fail
 go_ret;exact⟨rfl,HB2.out.1⟩
theorem J69(g:Gm)(h:g.Ok)(n:Int)(hn:0≤n∧n≤g.s-1)(w:World):Calls Tryz.prog 77 #[g.v,.int .i64 n] w (Zr w (.int .i64 (4+n*g.l))):=by
 have H9:=Zh fun w=>JS g h w;have HB1:=Zh fun w=>Z1 g w;have HW:=Zh fun w=>KG n 0 (g.s-1) hn w;obtain⟨_,⟨h3,h4⟩,⟨h5,h6⟩,_⟩:=h;have ha:0≤n*g.l∧n*g.l≤512:=qq (B:=32) (A:=16) (by omega) (by omega) (by omega) (by omega);obtain⟨a0,a1⟩:=ha;go_enter Tryz.func77,Tryz.ntmps77
 go_wp2_with fail
 refine (H9.out _).mono ?_;rintro e w1 ⟨rfl,hb⟩;have HB:=Zh (KS hb);clear hb;obtain⟨c0,c1,c2,c3⟩:=HB.out.2.1
 go_wp2_with fail
 refine (HW.out _).mono ?_;rintro e w2 ⟨rfl,rfl⟩
 go_wp2_with fail
 refine J8 (fun wq=>Below w1.heap.size w1 wq) (by kernel_rfl) ?_;refine Jj 0 (some 16) (g.v) rfl rfl (by kernel_rfl) (by kernel_rfl) (by kernel_rfl) (fun _ _ _ h=>h) rfl (fun w hS=>by obtain⟨c0,c1,c2,c3⟩:=HB.out.2.1.below hS HB.out.2.2; go_simp) (Below.refl _ _).drew ?_;refine nm ?_;refine Jj 2 (some 18) (.int .i64 n) rfl rfl (by kernel_rfl) (by kernel_rfl) (by kernel_rfl) (fun _ _ _ h=>h) rfl (fun w _=>by go_simp) (Below.refl _ _).drew ?_;refine nm ?_;refine Jj 3 (some 19) (.pointer (some ⟨w.heap.size,2,none⟩)) rfl rfl (by kernel_rfl) (by kernel_rfl) (by kernel_rfl) (fun _ _ _ h=>h) rfl (fun w _=>by go_simp) (Below.refl _ _).drew ?_;refine nm ?_;refine Jj 4 (some 20) (.int .i64 g.l) rfl rfl (by kernel_rfl) (by kernel_rfl) (by kernel_rfl) (fun _ _ _ h=>h) rfl (fun w hS=>by obtain⟨c0,c1,c2,c3⟩:=HB.out.2.1.below hS HB.out.2.2; go_simp) (Below.refl _ _).drew ?_;refine nm ?_;refine Jj 5 (some 21) (.int .i64 (n*g.l)) rfl rfl (by kernel_rfl) (by kernel_rfl) (by kernel_rfl) (fun _ _ _ h=>h) rfl (fun w _=>by go_simp <;> first | done | (go_ints; first | done | trivial)) (Below.refl _ _).drew ?_;refine nm ?_;refine Zo 1 fun K hK=>?_;go_simp;refine (HB1.out _).mono ?_;rintro e w1 ⟨rfl,hb⟩;have HS1:=Zh (Jk (Below.refl _ _).drew hb);refine hK _ _ HS1.out ?_;clear hK hb K;refine nm ?_;refine Jj 6 (some 22) (.int .i64 (4+(n*g.l))) rfl rfl (by kernel_rfl) (by kernel_rfl) (by kernel_rfl) (fun _ _ _ h=>h) rfl (fun w _=>by go_simp <;> first | done | (go_ints; first | done | trivial)) HS1.out ?_;refine nm ?_;refine Jj 7 (some 4) (.int .i64 (4+(n*g.l))) rfl rfl (by kernel_rfl) (by kernel_rfl) (by kernel_rfl) (fun _ _ _ h=>h) rfl (fun w _=>by go_simp) HS1.out ?_;refine nm ?_;refine Zd ?_
 go_wp2_with fail
 go_ret;exact⟨rfl,HB.out.1.trans (HS1.mono HB.out.1.size)⟩
def Gm.cap(g:Gm):Int:=max 0 (min g.p ((4*(g.s-4)-g.maps)/3))
theorem Gm.Ok.maps{g:Gm}(h:g.Ok):1≤g.maps∧g.maps≤8∧g.p≤g.maps*8∧(g.maps-1)*8<g.p:=by
 obtain⟨⟨h1,h2⟩,_,_,_⟩:=h;unfold Gm.maps;rw [Int.tdiv_eq_ediv_of_nonneg (by omega)];omega
theorem _root_.Go.Proofs.YtdbfmikeaoaebaaGreatDoor.Blk.newAt(t:TypeId)(n:Nat)(l:List Value)(hn:n=w.heap.size)(hl:l=cs.toList):Blk (w.alloc (.cells cs t)) n l:=by
 subst hn;subst hl;exact⟨t,by simpa using heap_alloc_new w (.cells cs t)⟩
theorem info23:(Tryz.prog.info? 23).map (·.size)=some 4:=by kernel_rfl
theorem qr(w:World):Calls Tryz.prog 17 #[] w (Zr w (.agg #[.int .i64 16,.int .i64 8,.int .i64 24,.int .i64 4])):=by
 go_enter Tryz.func17,Tryz.ntmps17
 go_wp2_with fail
 exact bodyPost_ret (v:=.agg #[.int .i64 16,.int .i64 8,.int .i64 24,.int .i64 4]) (results_cell_row rfl _ _ w.heap.size 23 #[.int .i64 16,.int .i64 8,.int .i64 24,.int .i64 4] _ _ rfl (heap_alloc_new w _) Tryz.underlying23 rfl info23) rfl ⟨rfl,(Below.refl _ _).alloc (Nat.le_refl _) _⟩
end Pl
end Go.Proofs.YtdbfmikeaoaebaaGreatDoor
