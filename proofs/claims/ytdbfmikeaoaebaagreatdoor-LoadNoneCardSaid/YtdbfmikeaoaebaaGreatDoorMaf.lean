/- Steps. -/
import Derived.Test.YtdbfmikeaoaebaaGreatDoorMae
import Derived.Test.YtdbfmikeaoaebaaGreatDoorMab
import Derived.Deep.Cut
import Derived.Deep.CutRange
import Derived.BigQuiet
import Derived.Deep.QuietTactic
import Derived.RegionTactic
import Derived.Test.YtdbfmikeaoaebaaGreatDoorMac
set_option linter.unusedSimpArgs false
set_option linter.unusedVariables false
set_option maxRecDepth 100000
set_option maxHeartbeats 4000000
namespace Go.Proofs.YtdbfmikeaoaebaaGreatDoor
open Go.RowKit
variable {B b cap g i n:Nat} {L:List Value} {sv v:Value} {w w':World}
theorem J6w(l m:List Int)(hl:l.length≤1000)(hm:m.length≤1000)(sv tv:Value)(w:World)(h:IntsAt w sv l)(k:IntsAt w tv m):Calls Tryz.prog 15 #[sv,tv] w (Zr w (.bool (decide (l=m)))):=by
 obtain⟨a,cap,rfl,hc⟩:=h;obtain⟨a',cap',rfl,hc'⟩:=k;have HC:=Zh hc;have HC':=Zh hc';clear hc hc'
 by_cases hlen:l.length=m.length
 · obtain⟨n,hn⟩:∃n,m.length=n:=⟨_,rfl⟩
   have hln:=hlen.trans hn;rw [hn] at hm;rw [hln,hn];have HN:=Zh hn;have HLN:=Zh hln;clear hln hl hlen hn;go_enter Tryz.func15,Tryz.ntmps15
   go_wp2_with fail
   go_loopg [5] n (fun q i wr=>∃k:Nat,n-k≤q∧k≤n∧i=.int .i64 k∧(∀j,j<k→l[j]? = m[j]?)∧Below w.heap.size w wr)
   case atStart=>exact⟨0,by omega,by omega,rfl,fun j hj=>by omega,Below.refl _ _⟩
   case round =>
    obtain⟨k,hg,hk,rfl,heq,hbel⟩:=hrel;have HE:=Zh heq;have HB:=Zh hbel;clear heq hbel
    by_cases hlt:k<n
    · have h1:=HLN.out;have h2:=HN.out;obtain⟨x,hx⟩:∃x,l[k]? = some x:=⟨_,List.getElem?_eq_getElem (by omega)⟩
      obtain⟨y,hy⟩:∃y,m[k]? = some y:=⟨_,List.getElem?_eq_getElem (by omega)⟩
      obtain⟨b,o,rfl,c1⟩:=HC.out k x hx;obtain⟨b',o',rfl,c2⟩:=HC'.out k y hy;have d1:=(HB.cell (block_lt_of_cell c1)).trans c1;have d2:=(HB.cell (block_lt_of_cell c2)).trans c2;have HX:=Zh hx;have HY:=Zh hy;clear hx hy c1 c2 h1 h2;have hk1:(k:Int)<(n:Int):=by omega
      have hg1:decide ((k:Int)<(n:Int))=true:=decide_eq_true hk1
      by_cases hxy:x=y
      · subst hxy;have e1:(x != x)=false:=by simp
        go_wp2_with fail
        go_quiet (fail)
        go_wp2_with fail
        go_roundg (n-(k+1))
        case measure=>omega
        case rel=>exact⟨k+1,by omega,by omega,by go_num,fun j hj=>by
         by_cases hj2:j<k
         · exact HE.out j hj2
         · obtain rfl:j=k:=by omega
           rw [HX.out,HY.out],Qe HB.out _⟩
      · have e1:(x != y)=true:=by simpa using hxy
        have HXY:=Zh hxy;clear hxy
        go_wp2_with fail
        go_quiet (fail)
        go_wp2_with fail
        go_ret;exact⟨J9 (by
         symm
         refine decide_eq_false fun e=>HXY.out ?_
         have:=HX.out
         rw [e,HY.out] at this
         exact (Option.some.inj this).symm),Qe HB.out _⟩
    · obtain rfl:k=n:=by omega
      have hk1:¬(k:Int)<(k:Int):=by omega
      have hg1:decide ((k:Int)<(k:Int))=false:=decide_eq_false hk1
      go_wp2_with fail
      go_ret;exact⟨J9 (by
       symm
       refine decide_eq_true (List.ext_getElem? fun j=>?_)
       rcases Nat.lt_or_ge j k with h1 | h1
       · exact HE.out j h1
       · have h2:=HLN.out
         have h3:=HN.out
         rw [List.getElem?_eq_none (by omega),List.getElem?_eq_none (by omega)]),HB.out⟩
 · have HL:Hid (l≠m):=Zh fun e=>hlen (by rw [e]);have e1:((l.length:Int) != (m.length:Int))=true:=by simp; omega
   have hne:¬(l.length:Int)=(m.length:Int):=by omega
   clear hlen;go_enter Tryz.func15,Tryz.ntmps15
   go_wp2_with fail
   go_ret;exact⟨J9 (by symm; exact decide_eq_false HL.out),Below.refl _ _⟩
theorem ItemsAt.of_row{l:List (It×Value)}(h:Blk w g (Jf l))(hn:l.length=n)(hc:n≤cap)(hw:∀x∈l,x.1.Wf∧BytesAt w x.2 x.1.blk.bytes):ItemsAt w (.slice (some ⟨g,0,none⟩) n cap) l:=by
 subst hn;refine⟨_,cap,rfl,hc,fun i x hx=>?_⟩;obtain⟨h1,h2⟩:=hw x (List.mem_of_getElem? hx);refine⟨h1,h2,g,0,rfl,fun j hj=>h.cell ?_⟩;rw [It.arr_size h1] at hj;rw [Nat.zero_add,Xb (fun y hy=>(hw y hy).1) hj,hx];show (x.1.cells x.2)[j]? = _;rw [List.getElem?_eq_getElem (by rw [It.cells_length h1]; exact hj)];rfl
theorem Blk.grown{l:List Value}{row:Option Nat}(h:Blk w b l)(hg:w.grownBy w' row)(hr:∀k,row=some k→k≠b):Blk w' b l:=h.of_block (hg.block b h.lt fun e=>hr b e.symm rfl)
theorem MarksAt.grown{l:List Mk}{row:Option Nat}(h:MarksAt w sv l)(hg:w.grownBy w' row)(hf:Fresh B sv)(hr:∀k,row=some k→k<B):MarksAt w' sv l:=by
 obtain⟨a,cap,e,hc⟩:=h;refine⟨a,cap,e,fun i x hx=>?_⟩;obtain⟨b,o,e2,h1,h2⟩:=hc i x hx;have hb:=hg.block b (block_lt_of_cell h1) fun e3=>by
  have h3:=hr b e3.symm;have h4:=hf b o _ _ (by rw [e,e2]);omega
 exact⟨b,o,e2,by rw [←h1]; simp only [World.cell?,hb],by rw [←h2]; simp only [World.cell?,hb]⟩
structure NoIt (L:List Value):Prop where
 few:L.length≤46
 byte:∀x,(Value.int .u8 x) ∉ L
theorem Blk.has_cell(h:Blk w g L)(hc:w.cell? ⟨g,i,none⟩=some v):L[i]? = some v:=by
 obtain⟨t,ht⟩:=h;rw [cell_of_row w g i _ t _ ht] at hc;simpa using hc
theorem ItemsAt.only{l:List (It×Value)}(h:ItemsAt w sv l)(hb:Blk w g L)(hL:NoIt L)(ho:Only (fun k=>k=g) w w'):ItemsAt w' sv l:=by
 obtain⟨a,cap,e,hcap,hc⟩:=h;refine⟨a,cap,e,hcap,fun i x hx=>?_⟩;obtain⟨h1,h2,b,o,h3,h4⟩:=hc i x hx;have hne:b≠g:=by
  rintro rfl;have:=hb.has_cell (h4 46 (by rw [It.arr_size h1]; decide));have:=(List.getElem?_eq_some_iff.1 this).1;have:=hL.few;omega
 have hbb:=ho.block b (h4.lt (by rw [It.arr_size h1]; decide)) hne;refine⟨h1,?_,b,o,h3,fun j hj=>?_⟩
 · by_cases h0:x.1.blk.bytes.length=0
   · obtain⟨a,cap,e,_⟩:=h2;exact⟨a,cap,e,fun i z hz=>by rw [List.eq_nil_of_length_eq_zero h0] at hz; simp at hz⟩
   · refine h2.only ho fun b2 o2 n2 c2 e2=>?_;rintro rfl;obtain⟨b3,o3,c3,e3,hc3⟩:=h2.has (by omega);rw [e2] at e3;cases e3;have:=hb.has_cell (hc3 0 x.1.blk.bytes[0] (by simp));exact hL.byte _ (List.mem_of_getElem? this)
 · rw [←h4 j hj];simp only [World.cell?,hbb]
def rp(n:Nat)(v:Int):List Int:=List.replicate n v
theorem J6x:Jo 1:=⟨by decide,by decide⟩
theorem J2b:(Tryz.prog.info? 43).bind (·.zero)=some (.agg (u8s (zeros 32)).toArray):=by kernel_rfl
theorem xe(v:Int)(k:Nat)(h:k<32):(List.replicate k v++zeros (32-k)).set k v=List.replicate (k+1) v++zeros (32-(k+1)):=by
 unfold zeros;rw [List.set_append_right _ _ (by simp),show 32-k=(32-(k+1))+1 by omega,List.replicate_succ];simp only [List.length_replicate,Nat.sub_self,List.set_cons_zero];rw [List.replicate_succ',List.append_assoc];rfl
theorem yi(v:Int)(k:Nat)(h:k<32):(u8s (List.replicate k v++zeros (32-k)))[k]? = some (.int .u8 0):=by
 rw [List.getElem?_map];unfold zeros;rw [List.getElem?_append_right (by simp)];simp only [List.length_replicate,Nat.sub_self];rw [List.getElem?_replicate,if_pos (by omega)];rfl
theorem yj(v:Int)(w:World):Calls Tryz.prog 23 #[.int .u8 v] w (Zr w (.agg (u8s (rp 32 v)).toArray)):=by
 go_enter Tryz.func23,Tryz.ntmps23;go_upto_region 0 with fail;refine Zl ?_;refine J4 J2b rfl ?_;intro w1 hA hb hl;refine nm ?_;have HA:=Zh hA;have HB:=Zh hb;have HL:=Zh hl;clear hA hb hl;go_upto_region 1 with fail;refine Zl ?_;refine J4 J2b rfl ?_;intro w2 hA hb hl;refine nm ?_;have HA2:=Zh (HA.below hb HL.out);have HC:=Zh hA;have HB2:=Zh (Jk HB.out hb);obtain⟨t,ht⟩:∃t,w1.heap.size=t:=⟨_,rfl⟩
 rw [ht] at HC HL ⊢;clear hA hb hl HA HB ht;go_wp2_with fail
 go_loopg [4] 32 (fun q i wr=>∃k:Nat,32-k≤q∧k≤32∧i=.int .i64 k∧Blk wr w.heap.size (u8s (zeros 32))∧Blk wr t (u8s (List.replicate k v++zeros (32-k)))∧Below w.heap.size w wr)
 case atStart=>exact⟨0,by omega,by omega,rfl,HA2.out,HC.out,HB2.out⟩
 case round =>
  obtain⟨k,hq,hk,rfl,h1,h2,h3⟩:=hrel;have H1:=Zh h1;have H2:=Zh h2;have H3:=Zh h3;clear h1 h2 h3 HA2 HC HB2
  by_cases hlt:k<32
  · have c0:=H2.cell (yi v k hlt);have f0:=H2.frozen k;have gk:decide ((k:Int)<32)=true:=decide_eq_true (by omega);have HR:Hid (Blk (wr.setCell ⟨t,k,none⟩ (.int .u8 v)) t (u8s (List.replicate (k+1) v++zeros (32-(k+1))))):=Zh (by
     have:=H2.set k (.int .u8 v)
     rw [show (u8s (List.replicate k v++zeros (32-k))).set k (.int .u8 v)=u8s ((List.replicate k v++zeros (32-k)).set k v) by simp [List.map_set],xe v k hlt] at this
     exact this)
    have HR1:Hid (Blk (wr.setCell ⟨t,k,none⟩ (.int .u8 v)) w.heap.size (u8s (zeros 32))):=Zh (H1.setOther (by have:=HL.out; simp only; omega) _);have HR3:Hid (Below w.heap.size w (wr.setCell ⟨t,k,none⟩ (.int .u8 v))):=Zh (H3.setCell (by have:=HL.out; simp only; omega) _)
    go_wp2_with fail
    go_roundg (32-(k+1))
    case measure=>omega
    case rel=>exact⟨k+1,by omega,by omega,by go_num,HR1.out,HR.out,HR3.out⟩
  · obtain rfl:k=32:=by omega
    rw [Nat.sub_self,show zeros 0=[] from rfl,List.append_nil] at H2;have HLN:Hid ((rp 32 v).length=32):=Zh (by simp [rp]);have HZ:Hid ((zeros 32).length=32):=Zh (J1 32);have hrp:List.replicate 32 v=rp 32 v:=rfl;rw [hrp] at H2;obtain⟨p,hp⟩:∃p,rp 32 v=p:=⟨_,rfl⟩
    rw [hp] at H2 HLN;have HP:=Zh hp;clear hp hlt hrp;go_upto_region 6 with fail;refine Zl ?_;refine KR (cs:=(u8s p).toArray) (Blk.all H2.out rfl) (by rw [J2,HLN.out]) rfl rfl ?_;refine nm ?_;refine J3 (cs:=(u8s p).toArray) H1.out (by rw [J2,HLN.out,List.length_map,HZ.out]) (by rw [J2,HLN.out]; exact Kd) (Ji _) rfl rfl rfl ?_;intro w9 hD hO hlD;refine nm ?_;have HD:=Zh hD;have HR:=Zh (H3.trans (hO.below H3.size fun k hk=>Nat.le_of_eq hk.symm));clear hD hO hlD;go_wp2_with fail
    refine bodyPost_ret (v:=.agg (u8s p).toArray) (Jr rfl _ _ w.heap.size 0 _ _ rfl Tryz.underlying43 rfl (by rw [J2,HLN.out]; exact Kd) (Blk.all HD.out rfl)) rfl ⟨by rw [HP.out],HR.out⟩
def qf(id v:Int):Bk:=⟨1,id,rp 32 v,0,[],0,zeros 8⟩
def YQ(id v:Int):It:=⟨(1,id),qf id v⟩
theorem J6y(id v:Int):Tryz.prog.built 82 [(0,.int .i64 1),(1,.int .i64 id),(2,.agg (u8s (rp 32 v)).toArray)]=some ((qf id v).arr (.slice none 0 0)):=by kernel_rfl
theorem J6z(id v:Int):Tryz.prog.built 84 [(0,.agg #[.int .i64 1,.int .i64 id]),(1,.agg ((qf id v).arr (.slice none 0 0)))]=some ((YQ id v).arr (.slice none 0 0)):=by kernel_rfl
theorem Jb2(k i:Int):Tryz.prog.built 79 [(0,.int .i64 k),(1,.int .i64 i)]=some #[.int .i64 k,.int .i64 i]:=by kernel_rfl
theorem Yn(n:Nat):∀x∈zeros n,Jo x:=fun x hx=>by
 rw [List.eq_of_mem_replicate hx];exact Kb
theorem jL{id v:Int}(h:Jo id)(hv:KO v):(YQ id v).Wf:=⟨J6x,h,⟨J6x,h,Kb,Kb,by simp [YQ,qf,rp],(fun x hx=>by rw [List.eq_of_mem_replicate (show x∈List.replicate 32 v from hx)]; exact hv),Nat.zero_le _,(fun x hx=>by cases hx),J1 8,Yn 8⟩⟩
theorem J3t(id v:Int)(h:Jo id)(hv:KO v)(w:World):Calls Tryz.prog 22 #[.int .i64 id,.int .u8 v] w (Zr w (.agg ((YQ id v).arr (.slice none 0 0)))):=by
 have HL:=Zh fun w=>yj v w;have HW:=Zh (jL h hv);clear h hv;go_enter Tryz.func22,Tryz.ntmps22;go_upto_region 0 with fail;refine Zl ?_;refine J4 Zq rfl ?_;intro w1 hA hb hl;refine nm ?_;have HA:=Zh hA;have HB:=Zh hb;have HLT:=Zh hl;clear hA hb hl;go_upto_region 1 with fail;refine Zl ?_;refine tk (.int .i64 id) ?_;refine tk (.agg #[.int .i64 1,.int .i64 id]) ?_ (hr:=(Jc _ _ _ _ 79 _ rfl #[(0,.int .i64 1),(1,.int .i64 id)] (by simp only [List.map_toArray,List.map_cons,List.map_nil]; rfl) _ (run_build w1 79 _ _ (Jb2 _ _))));refine tk (.int .i64 id) ?_;refine tk (.int .u8 v) ?_;refine J0 rfl fun K hK=>?_;go_simp;refine (HL.out _).mono ?_;rintro e w2 ⟨rfl,hb⟩;have HB2:=Zh (Jk HB.out hb);have HA2:=Zh (HA.below hb HLT.out);clear hb HA HB HL;refine hK _ _ (nm ?_);clear hK K;refine tk (.agg ((qf id v).arr (.slice none 0 0))) ?_ (hr:=(Jc _ _ _ _ 82 _ rfl #[(0,.int .i64 1),(1,.int .i64 id),(2,.agg (u8s (rp 32 v)).toArray)] (by simp only [List.map_toArray,List.map_cons,List.map_nil]; rfl) _ (run_build w2 82 _ _ (J6y _ _))));refine tk (.agg ((YQ id v).arr (.slice none 0 0))) ?_ (hr:=(Jc _ _ _ _ 84 _ rfl #[(0,.agg #[.int .i64 1,.int .i64 id]),(1,.agg ((qf id v).arr (.slice none 0 0)))] (by simp only [List.map_toArray,List.map_cons,List.map_nil]; rfl) _ (run_build w2 84 _ _ (J6z _ _))));refine J3 (cs:=(YQ id v).arr (.slice none 0 0)) HA2.out (x9 It.none_wf HW.out _ _) (Zs HW.out _) (It.arr_one rfl) rfl rfl rfl ?_;intro w3 hD hO hlD;refine nm ?_;have HB3:=Zh (HB2.trans (hO.below HB2.size fun k hk=>Nat.le_of_eq hk.symm));go_wp2_with fail
 refine bodyPost_ret (v:=.agg ((YQ id v).arr (.slice none 0 0))) (Jr rfl _ _ w.heap.size 0 _ _ rfl Tryz.underlying84 rfl (Zs HW.out _) (hD.all rfl)) rfl ⟨rfl,HB3.out⟩
theorem Q2{iv:Value}{pl:List (It×Value)}(h:ItemsAt w iv pl):∃a c,iv=.slice a pl.length c:=by
 obtain⟨a,c,e,-⟩:=h;exact⟨a,c,e⟩
theorem qu(W:World)(o:Obj):Below W.heap.size W (W.alloc o):=(Below.refl _ _).alloc (Nat.le_refl _) _
open Go.RowKit
theorem same82{b c:Bk}(h:b.Wf)(k:c.Wf)(sv cv:Value):(b.cells sv).length=(c.arr cv).size:=by rw [Bk.cells_length h,Bk.arr_size k]
open Go.RowKit
theorem JU{P:Program}{o:Oper}{a:Act}{w:World}{K:Act→World→Prop}{Q:Exit→Act→World→Prop}(dst:Option Tmp)(hd:o.dst=dst)(w':World)(hr:(execOp a.eval o).run P w=.ok .skip w')(h:K (a.put dst undef) w'):o.wp P a w K Q:=by
 subst hd;unfold Oper.wp;rw [hr];exact h
open Go.RowKit
variable {B b i n:Nat} {l:List Int} {sv v:Value} {w w':World}
def J07(n:Int)(L:List It):St:=if JE L then Jd n L else ([],[])
theorem J2c(h:Below B w w')(hb:B≤b)(hB:B≤w.heap.size):Below B w (w'.setCell ⟨b,i,none⟩ v):=h.trans (((Only.refl (fun k=>k=b) w').setCell (p:=⟨b,i,none⟩) (.inl rfl) v).below (Nat.le_trans hB h.size) fun k hk=>by omega)
theorem xf{e s t:Nat}{xs:List Value}(h:w.ownsRow B e s sv n xs)(ho:Only (fun k=>k=t) w w')(ht:t<B):w'.ownsRow B e s sv n xs:=by
 refine⟨h.1,?_⟩;rcases h.2 with hn | ⟨g,cap,cur,e,hB,hg,r⟩
 · exact .inl hn
 · exact .inr ⟨g,cap,cur,e,hB,(ho.block g (Array.getElem?_eq_some_iff.1 hg).1 (by omega)).trans hg,r⟩
theorem OwnN.onlyN{t:Nat}(h:OwnN w B sv l)(ho:Only (fun k=>k=t) w w')(ht:t<B):OwnN w' B sv l:=xf h ho ht
theorem qv(l:List (It×Value))(L:List It)(hL:l.map (·.1)=L)(n:Int)(hn:Kj n)(sv:Value)(hlen:l.length<100000)(w:World)(h:ItemsAt w sv l):Calls Tryz.prog 109 #[.int .u32 n,sv] w fun e w'=>∃s7 s8,e=.returned (.tuple #[s7,s8,.int .i64 (if JE L then 0 else 1)])∧Two w w' s7 s8 (J07 n L):=by
 cases hm:JE L
 · refine (J6v l L hL hm n sv hlen w h).mono ?_;rintro e w' ⟨rfl,hb⟩;refine⟨_,_,rfl,?_⟩;unfold J07;rw [hm];exact⟨OwnS.nil _ _,OwnN.nil _ _,hb⟩
 · refine (J2a l L hL hm n hn sv w h).mono ?_;rintro e w' ⟨s7,s8,rfl,ht⟩;refine⟨_,_,rfl,?_⟩;unfold J07;rw [hm];exact ht
end Go.Proofs.YtdbfmikeaoaebaaGreatDoor
