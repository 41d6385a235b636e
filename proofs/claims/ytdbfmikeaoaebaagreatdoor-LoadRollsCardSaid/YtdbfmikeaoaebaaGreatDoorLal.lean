/- Steps. -/
import Derived.Test.YtdbfmikeaoaebaaGreatDoorLak
import Derived.BigQuiet
import Derived.Deep.AppendLies
import Derived.Deep.Cut
import Derived.Deep.CutRange
import Derived.Deep.DeepFit
import Derived.Deep.DeepMust
import Derived.Deep.LoopGhost
import Derived.Deep.QuietTactic
import Derived.Deep.Upon
import Derived.Laws.CopyRow
import Derived.Laws.Rows
import Derived.Laws.StructEq
import Derived.Lib.AppendZeros
import Derived.Lib.EndianBits
import Derived.Lib.Hide
import Derived.OrdersHeld
import Derived.RegionTactic
import Derived.WalkKit
import Derived.WalkLawsBesides
import Derived.WalkSpells
import Derived.Lib.ItoaLen
import Derived.Great.BuildSlice
import Derived.Great.FillDense
import Derived.Maps.AppendAt
set_option linter.unusedSimpArgs false
set_option linter.unusedVariables false
set_option maxRecDepth 100000
set_option maxHeartbeats 4000000
namespace Go.Proofs.YtdbfmikeaoaebaaGreatDoor
open Go.RowKit
variable {cap i j k m n:Nat} {l:List Int} {w:World}
namespace Mp
open Pl
def Fits(off:Int)(l:List Int):Prop:=0≤off∧0<l.length∧off+l.length≤32
instance (off:Int) (l:List Int):Decidable (Fits off l):=by unfold Fits;infer_instance
instance (g:Gm):Decidable g.Ok:=by unfold Gm.Ok;infer_instance
theorem gbox_below(g:Gm)(w:World):Below w.heap.size w (g.box w):=Zq.alloc Zy _
theorem wrap_err(T:TypeId)(d:Value)(t:ByteArray)(ts:List ByteArray)(s:ByteArray)(w:World)(h:Chain w 1 (t::ts) (.iface T d)):Calls Tryz.prog 59 #[.iface T d,.string s] w fun e w'=>∃T d t ts,e=.returned (.iface T d)∧Chain w' 1 (t::ts) (.iface T d)∧Below w.heap.size w w' :=
 (XT _ 1 t ts s w h).mono fun e w' ⟨v,h1,h2,h3⟩=>by
  obtain⟨T,d,rfl⟩:=h2.shape;exact⟨T,d,_,_,h1,h2,h3⟩
theorem new_err(s:ByteArray)(w:World):Calls Tryz.prog 56 #[.int .i64 1,.string s] w fun e w'=>∃T d t ts,e=.returned (.iface T d)∧Chain w' 1 (t::ts) (.iface T d)∧Below w.heap.size w w' :=
 (Qf 1 s w rfl).mono fun e w' ⟨v,h1,h2,h3⟩=>by
  obtain⟨T,d,rfl⟩:=h2.shape;exact⟨T,d,_,_,h1,h2,h3⟩
theorem istr_any(k:Nat)(hk:k<64)(w:World):Calls Tryz.prog 150 #[.int .i64 k] w fun e w'=>∃s:ByteArray,e=.returned (.string s)∧s.size≤100∧w=w':=by
 by_cases h:k<10
 · have h1:(k:Int)<10:=by omega
   go_enter Tryz.func150,Tryz.ntmps150
   go_wp2_with fail
   go_ret;exact⟨_,rfl,by simp [ByteArray.size_extract];omega,rfl⟩
 · have h1:¬(k:Int)<10:=by omega
   go_enter Tryz.func150,Tryz.ntmps150
   go_wp2_with fail
   go_ret;exact⟨_,rfl,by simp [ByteArray.size_extract];omega,rfl⟩
theorem format_any(k:Nat)(hk:k<64)(w:World):Calls Tryz.prog 118 #[.int .i64 k,.int .i64 10] w fun e w'=>∃s:ByteArray,e=.returned (.string s)∧s.size≤100∧w=w':=by
 have H:=Zh (istr_any k hk w);have h0:(0:Int)≤(k:Int):=by omega
 have h1:(k:Int)<100:=by omega
 go_enter Tryz.func118,Tryz.ntmps118
 go_wp2_with fail
 refine H.mono ?_;rintro e w' ⟨s,rfl,hs,rfl⟩
 go_wp2_with fail
 go_ret;exact⟨s,rfl,hs,rfl⟩
theorem itoa1_any(k:Nat)(hk:k<64)(w:World):Calls Tryz.prog 92 #[.int .i64 k] w fun e w'=>∃s:ByteArray,e=.returned (.string s)∧s.size≤100∧w=w':=by
 have H:=Zh (format_any k hk w);go_enter Tryz.func92,Tryz.ntmps92
 go_wp2_with fail
 refine H.mono ?_;rintro e w' ⟨s,rfl,hs,rfl⟩
 go_wp2_with fail
 go_ret;exact⟨s,rfl,hs,rfl⟩
theorem itoa_any(k:Nat)(hk:k<64)(w:World):Calls Tryz.prog 60 #[.int .i64 k] w fun e w'=>∃s:ByteArray,e=.returned (.string s)∧s.size≤100∧w=w':=by
 have H:=Zh (itoa1_any k hk w);go_enter Tryz.func60,Tryz.ntmps60
 go_wp2_with fail
 refine H.mono ?_;rintro e w' ⟨s,rfl,hs,rfl⟩
 go_wp2_with fail
 go_ret;exact⟨s,rfl,hs,rfl⟩
theorem of_in(p:Int)(h0:0≤p)(h1:p<64)(w:World):Calls Tryz.prog 83 #[.int .i64 p] w fun e w'=>e=.returned (.tuple #[.int .i64 (p/8),.int .i64 (p%8)])∧w=w':=by
 have d0:decide (p<0)=false:=decide_eq_false (by omega);have d1:decide (64≤p)=false:=decide_eq_false (by omega);have HQ:Hid (p.tdiv 8=p/8∧p.tmod 8=p%8):=Zh ⟨Int.tdiv_eq_ediv_of_nonneg h0,Int.tmod_eq_emod_of_nonneg h0⟩;go_enter Tryz.func83,Tryz.ntmps83
 go_wp2_with fail
 go_ret2;exact⟨by rw [←HQ.out.1,←HQ.out.2];rfl,rfl⟩
def hds(l:List Int)(i:Nat):List Int:=(List.range 8).map fun k=>l.getD (i*8+k) 0
def mk(l:List Int)(i:Nat):Bk:=⟨3,i,zeros 32,0,[],0,hds l i⟩
theorem Yd(l:List Int)(i:Nat):(hds l i).length=8:=by simp [hds]
theorem Jbg(l:List Int)(i k:Nat)(hk:k<8):(hds l i)[k]? = some (l.getD (i*8+k) 0):=by simp [hds,hk]
theorem J2y(h:∀x∈l,Jh x)(i:Nat):Jh (l.getD i 0):=by
 rw [List.getD_eq_getElem?_getD];cases e:l[i]? with
 | none=>exact K7
 | some x=>exact h x (List.mem_of_getElem? e)
theorem J6z(h:∀x∈l,Jh x)(i:Nat):∀x∈hds l i,Jh x:=fun x hx=>by
 obtain⟨k,_,rfl⟩:=List.mem_map.1 hx;exact J2y h _
theorem Jbh(h:∀x∈l,Jh x)(hi:i<1000):(mk l i).Wf:=⟨⟨by show (-9223372036854775808:Int)≤3;decide,by show (3:Int)<9223372036854775808;decide⟩,⟨by simp only [mk];omega,by simp only [mk];omega⟩,K7,K7,J1 32,K8 32,Nat.zero_le _,(fun x hx=>by cases hx),Yd l i,J6z h i⟩
def KI:Value:=.slice none 0 0
def row(F:Nat→Bk)(n:Nat):List Value:=(List.range n).flatMap fun i=>(F i).cells KI
theorem qy(F:Nat→Bk)(n:Nat):row F (n+1)=row F n++(F n).cells KI:=by
 simp [row,List.range_succ]
theorem Zp{F:Nat→Bk}(h:∀i,(F i).page.length=32∧(F i).heads.length=8)(n:Nat):(row F n).length=n*45:=by
 induction n with
 | zero=>rfl
 | succ n ih =>
  rw [qy,List.length_append,ih];have:((F n).cells KI).length=45:=by simp [Bk.cells,(h n).1,(h n).2]
  omega
theorem J2z{F:Nat→Bk}(h:∀i,(F i).page.length=32∧(F i).heads.length=8)(hi:i<n)(hj:j<45):(row F n)[i*45+j]? = ((F i).cells KI)[j]? := by
 induction n with
 | zero=>omega
 | succ n ih =>
  have hl:=Zp h n;rw [qy]
  by_cases e:i=n
  · subst e;rw [List.getElem?_append_right (by omega)];congr 1;omega
  · rw [List.getElem?_append_left (by omega)];exact ih (by omega)
theorem Jbi(h:Int):Tryz.prog.built 54 [(0,.int .i64 h)]=some (Jq (h::zeros 7)).toArray:=by kernel_rfl
def one(h:Int):Bk:=⟨3,0,zeros 32,0,[],0,h::zeros 7⟩
theorem Jbj(h:Int):Tryz.prog.built 82 [(0,.int .i64 3),(6,.agg (Jq (h::zeros 7)).toArray)]=some ((one h).arr (.slice none 0 0)):=by kernel_rfl
theorem Jbk(h:Int):(one h).good=K6 h:=by
 have e:(zeros 7).all K6=true:=by decide
 simp [Bk.good,one,within,Bk.plain,e]
theorem Jhz{h:Int}(hh:Jh h):(one h).Wf:=⟨⟨by show (-9223372036854775808:Int)≤3;decide,by show (3:Int)<9223372036854775808;decide⟩,K7,K7,K7,J1 32,K8 32,Nat.zero_le _,(fun x hx=>by cases hx),rfl,fun x hx=>by
 rcases List.mem_cons.1 hx with rfl|hx
 · exact hh
 · exact Yw 7 x hx⟩
theorem J4o:Len (.slice none 0 0) 0:=⟨_,_,rfl⟩
theorem qz(h:Int)(hh:Jh h)(w:World):Calls Tryz.prog 81 #[.int .i64 h] w (Zr w (.bool (K6 h))):=by
 have H:=Zh fun w=>QT (one h) (.slice none 0 0) J4o (Jhz hh) w;have b1:=fun w=>run_build (P:=Tryz.prog) w 54 _ _ (Jbi h);have b2:=fun w=>run_build (P:=Tryz.prog) w 82 _ _ (Jbj h);rw [←Jbk h];go_enter Tryz.func81,Tryz.ntmps81
 go_wp2_with fail
 refine (H.out _).mono ?_;rintro e w1 ⟨rfl,hb⟩;have HB:=Zh hb;clear hb
 go_wp2_with fail
 go_ret;exact⟨rfl,HB.out⟩
theorem xE(i:Nat):((fun _:Nat=>Bk.none) i).page.length=32∧((fun _:Nat=>Bk.none) i).heads.length=8:=⟨J1 32,J1 8⟩
theorem info82a:(Tryz.prog.info? 82).map (fun i=>(i.size,i.bytes))=some (45,152):=by kernel_rfl
theorem zero82b:(Tryz.prog.info? 82).bind (·.zero)=some (.agg (Bk.none.arr KI)):=by kernel_rfl
theorem inf82:∃i,Tryz.prog.info? 82=some i∧i.zero=some (.agg (Bk.none.arr KI))∧i.size=45∧i.bytes=152:=by
 have h1:=info82a;have h2:=zero82b;cases hq:Tryz.prog.info? 82 with
 | none=>simp [hq] at h1
 | some i=>simp [hq] at h1 h2;exact⟨i,rfl,h2,h1⟩
theorem Jbl(n:Nat):madeCells (Bk.none.arr KI) (n*45)=(row (fun _=>Bk.none) n).toArray:=by
 apply Array.ext_getElem?;intro q;have hl:=Zp xE n;have hs:(Bk.none.arr KI).size=45:=by kernel_rfl
 by_cases hq:q<n*45
 · have e:q=q/45*45+q%45:=by omega
   have hq2:q%45<45:=Nat.mod_lt _ (by decide);have h1:=J2z xE (n:=n) (i:=q/45) (j:=q%45) (by omega) hq2;rw [←e] at h1;have h3:(row (fun _=>Bk.none) n).toArray[q]? = (Bk.none.cells KI)[q%45]? := by rw [←h1];simp
   rw [h3];simp only [madeCells,Array.getElem?_map,Array.getElem?_range,hq,if_true,Option.map_some,hs];have h2:q%45<(Bk.none.cells KI).length:=by
    have:(Bk.none.cells KI).length=45:=by kernel_rfl
    omega
   rw [List.getElem?_eq_getElem h2];congr 1;simp [Bk.arr,h2]
 · rw [Array.getElem?_eq_none (by rw [size_madeCells];omega),Array.getElem?_eq_none (by simp;omega)]
theorem Ji0(n:Nat)(hn:n≤64)(w:World):(Instr.makeSlice 95 (.int .i64 (n:Int)) (.int .i64 (n:Int))).run Tryz.prog w=.ok (.slice (some ⟨w.heap.size,0,none⟩) n n) (w.alloc (.cells (row (fun _=>Bk.none) n).toArray 82)):=by
 obtain⟨i,hi,hz,hs,hb⟩:=inf82;have:=run_makeSlice (P:=Tryz.prog) w 95 82 i _ Tryz.underlying95 hi hz .i64 .i64 n n (by omega) (Int.le_refl _) (by rw [hs];omega) (by rw [hb];omega) (by omega);rw [hs] at this;rw [←Jbl];simpa [Value.cells] using this
theorem make24(n:Nat)(hn:n≤64)(w:World):(Instr.makeSlice 41 (.int .i64 (n:Int)) (.int .i64 (n:Int))).run Tryz.prog w=.ok (.slice (some ⟨w.heap.size,0,none⟩) n n) (w.alloc (.cells (Jq (zeros n)).toArray 3)):=by
 obtain⟨i,hi,hz,hs,hb⟩:=J5d;have:=run_makeSlice (P:=Tryz.prog) w 41 3 i _ Tryz.underlying41 hi hz .i64 .i64 n n (by omega) (Int.le_refl _) (by rw [hs];omega) (by rw [hb];omega) (by omega);rw [hs] at this;have e:madeCells #[.int .i64 0] n=(Jq (zeros n)).toArray:=by
  apply Array.ext_getElem?;intro q
  by_cases hq:q<n
  · simp [madeCells,hq,zeros,Nat.mod_one]
  · rw [Array.getElem?_eq_none (by rw [size_madeCells];omega),Array.getElem?_eq_none (by simp [zeros];omega)]
 rw [←e];simpa [Value.cells] using this
theorem hp_heads(g:Gm)(h:g.Ok)(l:List Int)(hl:(l.length:Int)=g.p)(hsm:∀x∈l,Jh x)(sv:Value)(w:World)(hs:IntsAt w sv l):Calls Tryz.prog 49 #[g.v,sv] w fun e w' =>
 ((∀x∈l,K6 x=true)∧e=.returned .nilIface∧Below w.heap.size w w')∨(¬(∀x∈l,K6 x=true)∧∃T d t ts,e=.returned (.iface T d)∧Chain w' 1 (t::ts) (.iface T d)∧Below w.heap.size w w'):=by
 have H:=Zh fun w=>JX g h w;have HN:=Zh fun s w=>new_err s w;have HP:=h.1.2;have HS:=Zh hsm;obtain⟨n,hn⟩:∃n,l.length=n:=⟨_,rfl⟩
 have HI:=Zh hs;obtain⟨sa,sc,rfl,-⟩:=hs;have d0:((n:Int) != g.p)=false:=by rw [←hn,hl];simp
 have hn64:n≤64:=by omega
 have HL:=Zh hn;rw [hn] at HI ⊢;clear h hl hn hsm HP;go_enter Tryz.func49,Tryz.ntmps49
 go_wp2_with fail
 refine (H.out _).mono ?_;rintro e w1 ⟨rfl,hb⟩;have HB:=Zh (KY hb);clear hb;have c0:=HB.out.2.1.p
 go_wp2_with fail
 go_loopg [21] n (fun q i wr=>∃k:Nat,n-k≤q∧k≤n∧i=.int .i64 k∧(∀j x,j<k→l[j]? = some x→K6 x=true)∧Below w.heap.size w wr)
 case atStart=>exact⟨0,by omega,by omega,rfl,fun j x hj=>by omega,HB.out.1⟩
 case round =>
  obtain⟨k,hq,hk,rfl,hall,hb⟩:=hrel;have HA:=Zh hall;have HW:=Zh hb;clear hall hb
  by_cases hlt:k<n
  · have hk1:(k:Int)<(n:Int):=by omega
    obtain⟨x,hx⟩:∃x,l[k]? = some x:=⟨_,List.getElem?_eq_getElem (by have:=HL.out;omega)⟩
    have HX:=Zh hx;have HXS:=Zh (HS.out x (List.mem_of_getElem? hx));obtain⟨a2,c2,e2,hc⟩:=HI.out;injection e2 with e3 e4 e5
    subst e3 e5;obtain⟨b,o,rfl,c1⟩:=hc k x hx;have d1:=(HW.cell (block_lt_of_cell c1)).trans c1;clear hx hc c1 e4
    by_cases hh:K6 x=true
    · have HH:=Zh fun w=>qz x HXS.out w;rw [hh] at HH
      go_wp2_with fail
      refine (HH.out _).mono ?_;rintro e w2 ⟨rfl,hb⟩;have HW2:=Zh (Jk HW.out hb);clear hb
      go_wp2_with fail
      go_roundg (n-(k+1))
      case measure=>omega
      case rel=>exact⟨k+1,by omega,by omega,by go_num,fun j y hj hy=>by
       by_cases hj2:j<k
       · exact HA.out j y hj2 hy
       · obtain rfl:j=k:=by omega
         rw [HX.out] at hy
         obtain rfl:=Option.some.inj hy
         exact hh,HW2.out⟩
    · have HH:=Zh fun w=>qz x HXS.out w;have hh2:K6 x=false:=by simpa using hh
      rw [hh2] at HH;have HNO:Hid (¬∀x∈l,K6 x=true):=Zh fun h=>hh (h x (List.mem_of_getElem? HX.out));have HT:=Zh fun w=>itoa_any k (by omega) w;have HWR:=Zh wrap_err;clear hh
      go_wp2_with fail
      refine (HH.out _).mono ?_;rintro e w2 ⟨rfl,hb⟩;have HW2:=Zh (Jk HW.out hb);clear hb
      go_wp2_with fail
      refine (HN.out _ _).mono ?_;rintro e w3 ⟨T,d,t,ts,rfl,hc,hb⟩;have HC:=Zh hc;have HW3:=Zh (Jk HW2.out hb);clear hc hb
      go_wp2_with fail
      refine (HT.out _).mono ?_;rintro e w4 ⟨s,rfl,hs,rfl⟩
      go_wp2_with fail
      refine (HWR.out _ _ _ _ _ _ HC.out).mono ?_;rintro e w5 ⟨T2,d2,t2,ts2,rfl,hc,hb⟩;have HC2:=Zh hc;have HW5:=Zh (Jk HW3.out hb);clear hc hb
      go_wp2_with fail
      go_ret;exact .inr ⟨HNO.out,T2,d2,t2,ts2,rfl,HC2.out,HW5.out⟩
  · obtain rfl:k=n:=by omega
    have hk1:¬(k:Int)<(k:Int):=by omega
    go_wp2_with fail
    go_ret;exact .inl ⟨fun x hx=>by
     obtain⟨j,hj⟩:=List.getElem?_of_mem hx
     exact HA.out j x (by have:=(Zg hj).1;have:=HL.out;omega) hj,rfl,HW.out⟩
def F1(k:Nat)(i:Nat):Bk:=if i<k then mk [] i else Bk.none
theorem kz(l:List Int)(i:Nat):(mk l i).page.length=32∧(mk l i).heads.length=8:=⟨J1 32,Yd l i⟩
theorem Jf1{p:Nat}(hp:p<n*8):(row (mk l) n)[p/8*45+(37+p%8)]? = some (.int .i64 (l.getD p 0)):=by
 rw [J2z (fun i=>kz l i) (by omega) (by omega)];have hl:(u8s (zeros 32)).length=32:=by simp [zeros]
 simp only [mk,Bk.cells];rw [show 37+p%8=(35+p%8)+1+1 by omega,List.getElem?_cons_succ,List.getElem?_cons_succ,List.getElem?_append_right (by omega),hl,show 35+p%8-32=p%8+1+1+1 by omega,List.getElem?_cons_succ,List.getElem?_cons_succ,List.getElem?_cons_succ,List.getElem?_map,Jbg _ _ _ (by omega),show p/8*8+p%8=p by omega];rfl
theorem Ji1(m:Nat)(hm:m<64)(w:World):Calls Tryz.prog 83 #[.int .i64 m] w fun e w'=>e=.returned (.tuple #[.int .i64 ((m/8:Nat):Int),.int .i64 ((m%8:Nat):Int)])∧w=w':=by
 have:=of_in (m:Int) (by omega) (by omega) w
 rwa [show ((m/8:Nat):Int)=(m:Int)/8 by omega,show ((m%8:Nat):Int)=(m:Int)%8 by omega]
theorem _root_.Go.Proofs.YtdbfmikeaoaebaaGreatDoor.Pl.Gm.Ok.nat{g:Gm}(h:g.Ok):∃n p:Nat,g.maps=n∧g.p=p∧1≤n∧n≤8∧1≤p∧p≤64∧p≤n*8∧(n-1)*8<p:=by
 obtain⟨m1,m2,m3,m4⟩:=h.maps;obtain⟨⟨p1,p2⟩,-⟩:=h;refine⟨g.maps.toNat,g.p.toNat,by omega,by omega,by omega,by omega,by omega,by omega,by omega,by omega⟩
def J4p(g:Gm)(l:List Int):Prop:=g.Ok∧(l.length:Int)=g.p∧∀x∈l,K6 x=true
theorem Jf2:K6 0=true:=by decide
theorem xF(h:∀x∈l,K6 x=true)(i:Nat):∀x∈hds l i,K6 x=true:=fun x hx=>by
 obtain⟨k,_,rfl⟩:=List.mem_map.1 hx;show K6 (l.getD (i*8+k) 0)=true;rw [List.getD_eq_getElem?_getD];cases e:l[i*8+k]? with
 | none=>exact Jf2
 | some y=>exact h y (List.mem_of_getElem? e)
theorem Jf3(h:∀x∈l,K6 x=true)(hi:i<8):(mk l i).good=true:=by
 have h1:((0:Int)≤(i:Int)):=by omega
 have h2:((i:Int)≤7):=by omega
 simp only [Bk.good,mk,within,Bk.plain];simp [h1,h2,xF h i];exact fun x hx=>xF h i x hx
theorem J30(h:l.length≤i*8+k):l.getD (i*8+k) 0=0:=by
 rw [List.getD_eq_getElem?_getD,List.getElem?_eq_none h];rfl
theorem Ji2(g:Gm)(l:List Int)(hl:(l.length:Int)=g.p)(hsm:∀x∈l,Jh x)(hh:∀x∈l,K6 x=true)(i:Nat)(hi:i<8)(w:World) :
 Calls Tryz.prog 175 #[g.v,.agg ((mk l i).arr KI),.int .i64 i] w fun e w'=>e=.returned .nilIface∧Below w.heap.size w w':=by
 have hwf:=Jbh hsm (i:=i) (by omega);have HG:=Zh fun w=>QT (mk l i) KI J4o hwf w;rw [Jf3 hh hi] at HG;have HWF:=Zh hwf;have HB0:Hid (BAt ((mk l i).box KI (g.box w)) (w.heap.size+1) (mk l i) KI):=Zh (by have:=BAt.box hwf KI (g.box w);simpa using this);have HW0:Hid (Below w.heap.size w ((mk l i).box KI (g.box w))):=Zh ((gbox_below g w).alloc (by simp) _);have HG0:Hid (GAt ((mk l i).box KI (g.box w)) w.heap.size g):=Zh ((GAt.box g w).below (box_below (mk l i) KI (g.box w)) (by simp));have c0:((mk l i).box KI (g.box w)).cell? ⟨w.heap.size+1,0,none⟩=some (.int .i64 3):=HB0.c0;have c1:((mk l i).box KI (g.box w)).cell? ⟨w.heap.size+1,1,none⟩=some (.int .i64 i):=HB0.c1;have HL:=Zh hl;clear hwf hl hsm hh;go_enter Tryz.func175,Tryz.ntmps175;go_upto_region 5 with fail;clear c0 c1;refine Zl ?_;refine JJ (cs:=(mk l i).arr KI) HB0.all ((mk l i).arr_size HWF.out KI) rfl rfl ?_;refine nm ?_;refine J0 rfl fun K hK=>?_;go_simp;refine (HG.out _).mono ?_;rintro e w2 ⟨rfl,hb⟩;have HB2:=Zh (HB0.below hb HB0.lt);have HW2:=Zh (Jk HW0.out hb);have HG2:=Zh (HG0.below hb (by simp;try omega));clear hb HB0 HG0 HW0;refine hK _ _ (nm ?_);clear hK K;refine tk (.bool false) ?_;refine tk (.bool false) ?_;go_upto_region 7 with fail;refine Zl ?_;refine tk (.pointer (some ⟨w.heap.size+1,37,none⟩)) ?_;refine XI (cs:=(Jq (hds l i)).toArray) HB2.heads (by simp [hds]) rfl rfl ?_;refine nm ?_;refine tk (.int .i64 0) ?_;refine Zn ?_;have c3:=HG2.p;have hi1:(i:Int)<8:=by omega
 go_wp2_with fail
 go_loopg [27] 8 (fun q c wr=>∃m:Nat,8-m≤q∧m≤8∧c=.int .i64 m∧w2=wr)
 case atStart=>exact⟨0,by omega,by omega,rfl,rfl⟩
 case round =>
  obtain⟨m,hq,hm,rfl,rfl⟩:=hrel
  by_cases hlt:m<8
  · have hk1:(m:Int)<8:=by omega
    have hx:=Jbg l i m hlt;obtain⟨x,hxe⟩:∃x,l.getD (i*8+m) 0=x:=⟨_,rfl⟩
    rw [hxe] at hx;have hix:=fun w=>kr w (hds l i) (Yd l i) m x hx
    by_cases hp:g.p≤(i:Int)*8+m
    · have hx0:x=0:=by rw [←hxe];exact J30 (by have:=HL.out;omega)
      have d1:decide (g.p≤(i:Int)*8+m)=true:=decide_eq_true hp;have d2:(x != 0)=false:=by rw [hx0];rfl
      clear hx hxe hx0
      go_wp2_with fail
      go_roundg (8-(m+1))
      case measure=>omega
      case rel=>exact⟨m+1,by omega,by omega,by go_num,rfl⟩
    · have d1:decide (g.p≤(i:Int)*8+m)=false:=decide_eq_false hp;clear hx hxe
      go_wp2_with fail
      go_roundg (8-(m+1))
      case measure=>omega
      case rel=>exact⟨m+1,by omega,by omega,by go_num,rfl⟩
  · obtain rfl:m=8:=by omega
    go_wp2_with fail
    go_ret;exact⟨rfl,HW2.out⟩
theorem Bk.arr_one{b:Bk}:∀v∈b.arr KI,v.oneCell'=true:=fun v hv=>by
 simp only [Bk.arr,Bk.cells,List.mem_toArray,List.mem_cons,List.mem_append,List.mem_map] at hv;rcases hv with rfl|rfl|⟨z,_,rfl⟩|rfl|rfl|rfl|⟨z,_,rfl⟩ <;> rfl
theorem info82s{b:Bk}(h:b.Wf):(Tryz.prog.info? 82).map (·.size)=some (b.arr KI).size:=by rw [b.arr_size h];exact Kc
theorem same82{b:Bk}(h:b.Wf):(Bk.none.cells KI).length=(b.arr KI).size:=by rw [b.arr_size h];exact Bk.none.cells_length Bk.none_wf KI
theorem J70{r:Nat}(h:Blk w r (row (mk l) n))(hi:i<n):At w r (i*45) ((mk l i).arr KI):=fun j hj=>h.cell (by
 have h45:((mk l i).cells KI).length=45:=by simp [Bk.cells,(kz l i).1,(kz l i).2]
 have hj':j<((mk l i).cells KI).length:=by simpa [Bk.arr] using hj
 rw [J2z (fun i=>kz l i) hi (by omega),List.getElem?_eq_getElem hj']
 simp [Bk.arr])
theorem Jf4(g:Gm)(l:List Int)(h:J4p g l)(hsm:∀x∈l,Jh x)(n:Nat)(hn:g.maps=n)(r:Nat)(w:World)(hr:Blk w r (row (mk l) n)) :
 Calls Tryz.prog 157 #[g.v,.slice (some ⟨r,0,none⟩) n n] w fun e w'=>e=.returned .nilIface∧Below w.heap.size w w':=by
 have HM:=Zh fun w=>Rn.maps_yes g h.1 w;have HG:=Zh fun w=>JX g h.1 w;have hn8:n≤8:=by have:=h.1.maps;omega
 have HP:=Zh fun i hi w=>Ji2 g l h.2.1 hsm h.2.2 i hi w;have HWF:=Zh fun i (hi:i<8)=>Jbh hsm (i:=i) (by omega);rw [hn] at HM;have HRB:=Zh hr;clear h hn hsm hr;go_enter Tryz.func157,Tryz.ntmps157
 go_wp2_with fail
 refine (HG.out _).mono ?_;rintro e w1 ⟨rfl,hb⟩;have HB:=Zh (KY hb);clear hb;obtain⟨c0,c1,c2,c3⟩:=HB.out.2.1
 go_wp2_with fail
 refine (HM.out _).mono ?_;rintro e w2 ⟨rfl,hb⟩;have HB2:=Zh (ZH HB.out hb);clear hb HB c0 c1 c2 c3
 go_wp2_with fail
 go_loopg [22] n (fun q c wr=>∃k:Nat,n-k≤q∧k≤n∧c=.int .i64 k∧(Below w.heap.size w wr∧GAt wr w.heap.size g∧w.heap.size<wr.heap.size))
 case atStart=>exact⟨0,by omega,by omega,rfl,HB2.out⟩
 case round =>
  obtain⟨k,hq,hk,rfl,hb⟩:=hrel;have HB:=Zh hb;clear hb HB2
  by_cases hlt:k<n
  · have hk1:(k:Int)<(n:Int):=by omega
    have HP1:=Zh (HP.out k (by omega));have HW1:=Zh (HWF.out k (by omega));have HA:=Zh (J70 (HRB.below HB.out.1 HRB.lt) hlt);go_upto_region 7 with fail;refine Zl ?_;refine tk (.int .i64 k) ?_;refine tk (.pointer (some ⟨r,k*45,none⟩)) ?_;refine JJ (cs:=(mk l k).arr KI) HA.out ((mk l k).arr_size HW1.out KI) rfl rfl ?_;refine nm ?_;refine J4 zero82b rfl ?_;intro w3 hA3 hb3 hl3;refine nm ?_;clear hl3;refine tk (.int .i64 k) ?_;refine J3 (cs:=(mk l k).arr KI) hA3 (same82 HW1.out) (info82s HW1.out) Bk.arr_one rfl rfl rfl ?_;intro w4 hD hO hlD;refine nm ?_;clear hlD hA3;have hbb:Below wr.heap.size wr w4:=hb3.trans (hO.below hb3.size fun k hk=>Nat.le_of_eq hk.symm);have HB4:=Zh (ZH HB.out hbb);have HD:=Zh hD;clear hb3 hO hbb hD HA;refine Zn ?_;obtain⟨c0,c1,c2,c3⟩:=HB4.out.2.1;generalize wr.heap.size=gk at *;clear HB;go_upto_region 8 with fail;refine Zl ?_;refine tk (.agg #[.int .i64 g.p,.int .i64 g.s,.int .i64 g.l,.int .i64 g.f]) ?_;refine JJ (cs:=(mk l k).arr KI) (HD.all rfl) ((mk l k).arr_size HW1.out KI) rfl rfl ?_;refine nm ?_;refine tk (.int .i64 k) ?_;refine J0 rfl fun K hK=>?_;go_simp;refine (HP1.out _).mono ?_;rintro e w5 ⟨rfl,hb⟩;have HB5:=Zh (ZH HB4.out hb);clear hb HB4;refine hK _ _ ?_;clear hK K c0 c1 c2 c3;refine nm ?_;refine tk (.nilIface) ?_;go_wp2_with fail
    go_roundg (n-(k+1))
    case measure=>omega
    case rel=>exact⟨k+1,by omega,by omega,by go_num,HB5.out⟩
  · obtain rfl:n=k:=by omega
    have hk1:¬(n:Int)<(n:Int):=by omega
    go_wp2_with fail
    go_ret;exact⟨rfl,HB.out.1⟩
theorem _root_.Go.Proofs.YtdbfmikeaoaebaaGreatDoor.IntsAt.of_blk(h:Blk w m (Jq l)):IntsAt w (.slice (some ⟨m,0,none⟩) l.length cap) l :=
 ⟨_,cap,rfl,fun i x hx=>⟨m,0,rfl,by rw [Nat.zero_add];exact h.cell (by rw [List.getElem?_map,hx];rfl)⟩⟩
def fill(l:List Int)(p k:Nat):List Int:=l.take k++zeros (p-k)
theorem J71(l:List Int)(p:Nat):fill l p 0=zeros p:=by simp [fill]
theorem Jbm{p:Nat}(h:l.length=p):fill l p p=l:=by
 subst h;simp [fill,zeros]
theorem Jf5{p:Nat}(h:l.length=p)(hk:k<p):(Jq (fill l p k))[k]? = some (.int .i64 0):=by
 have:(fill l p k)[k]? = some 0:=by
  unfold fill;rw [List.getElem?_append_right (by simp;omega)];have e1:k-(l.take k).length=0:=by simp;omega
  rw [e1,show p-k=(p-(k+1))+1 by omega];simp [zeros,List.replicate_succ]
 rw [List.getElem?_map,this];rfl
theorem Jbn{p:Nat}{x:Int}(h:l.length=p)(hx:l[k]? = some x):(Jq (fill l p k)).set k (.int .i64 x)=Jq (fill l p (k+1)):=by
 have hk:=(Zg hx).1;rw [show (Value.int .i64 x)=(Value.int IntKind.i64) x from rfl,←List.map_set];congr 1;unfold fill;rw [List.set_append_right _ _ (by simp;omega),List.take_add_one,hx];have e1:k-(l.take k).length=0:=by simp;omega
 rw [e1,show p-k=(p-(k+1))+1 by omega];simp [zeros,List.replicate_succ]
end Mp
variable {B cap g i k n:Nat} {l:List Int} {sv tv:Value} {w w':World}
namespace Us
open Pl
def Own(w:World)(B:Nat)(sv:Value)(l:List Int):Prop:=w.ownsRow B 3 1 sv l.length (Jq l)
theorem Own.nil(w:World)(B:Nat):Own w B (.slice none 0 0) []:=World.ownsRow_nil w B 3 1
theorem Own.ints(h:Own w B sv l):IntsAt w sv l:=by
 rcases h.2 with ⟨rfl,h0⟩|⟨g,cap,cur,rfl,hb,hg,hn,hm,hs,ht⟩
 · have:l=[]:=List.eq_nil_of_length_eq_zero h0;subst this;exact IntsAt.nil _ _ _
 · refine⟨_,cap,rfl,fun i x hx=>⟨g,0,rfl,?_⟩⟩;rw [Nat.zero_add,World.ownsRow.cellAt h i (by have:=(Zg hx).1;omega),List.getElem?_map,hx];rfl
theorem Own.lt(h:Own w B sv l):∀k,sv.ownBlock=some k→B≤k∧k<w.heap.size:=World.ownsRow.lt h
theorem Own.below(h:Own w B sv l)(hb:Below w.heap.size w w'):Own w' B sv l:=by
 refine⟨h.1,?_⟩;rcases h.2 with hn|⟨g,cap,cur,e,hB,hg,r⟩
 · exact .inl hn
 · exact .inr ⟨g,cap,cur,e,hB,(hb.block g (Array.getElem?_eq_some_iff.1 hg).1).trans hg,r⟩
theorem Own.mono{C:Nat}(h:Own w B sv l)(hc:C≤B):Own w C sv l:=World.ownsRow.mono h hc
theorem Jf6{m:List Int}(h:Own w B sv l)(hB:B≤w.heap.size)(k:IntsAt w tv m)(hlen:l.length+m.length≤1000000)(ty:TypeId) :
 ∃sv' w',(Builtin.append_ #[41,41] ty #[sv,tv]).run Tryz.prog w=.ok sv' w'∧Own w' B sv' (l++m)∧w.grownBy w' sv.ownBlock:=by
 obtain⟨i,hi,hz,hs,hby⟩:=J5d;cases m with
 | nil =>
  have hsl:∃a c,sv=.slice a l.length c∧l.length≤c:=by
   rcases h.2 with ⟨e,h0⟩|⟨g,cap,cur,e,_,_,hn,_⟩
   · exact⟨none,0,by rw [e,h0],by omega⟩
   · exact⟨_,cap,e,hn⟩
  obtain⟨a,c,rfl,hle⟩:=hsl;obtain⟨ta,tc,rfl,_⟩:=k;refine⟨_,w,run_append_nothing w 41 41 ty 3 i Tryz.underlying41 hi a l.length c hle _ ⟨.inl ⟨3,Tryz.underlying41⟩,fun _=>by rfl,?_,?_,by simp,fun u hu=>by cases hu⟩,by rw [List.append_nil];exact h,⟨rfl,rfl,rfl,Nat.le_refl _,fun _ _ _=>rfl⟩⟩
  · cases ta <;> simp [Builtin.firstCells,hs,loadCells,loadCellsFrom]
  · cases ta <;> simp [Builtin.firstCells,hs,loadCells,loadCellsFrom]
 | cons x m =>
  obtain⟨b,o,c,rfl,hc⟩:=k.has (by simp);obtain⟨v',w',hr,h2,h3,_⟩:=run_append_own (P:=Tryz.prog) w B 41 ty 3 i (.int .i64 0) 1 8 Tryz.underlying41 hi hz hs hby rfl (by decide) sv l.length (Jq l) h ⟨b,o,none⟩ (x::m).length c (Jq (x::m)) (by simp) (fun j u hu=>by
   rw [List.getElem?_map] at hu
   cases hz:(x::m)[j]? with
   | none=>simp [hz] at hu
   | some z =>
    simp [hz] at hu
    subst hu
    rw [show (⟨b,o,none⟩:Addr).add j=⟨b,o+j,none⟩ by unfold Addr.add;split <;> simp_all]
    exact hc j z hz) (fun u hu=>by obtain⟨z,_,rfl⟩:=List.mem_map.1 hu;rfl) (by simp only [maxLen];omega) (by omega) hB
  refine⟨v',w',hr,?_,h3⟩;unfold Own;rw [List.length_append,show Jq (l++x::m)=Jq l++Jq (x::m) by simp];exact h2
section
variable {ops:Array Oper} {rest:List Oper} {dst:Option Tmp} {x y:Operand} {t2:TypeId} {pos:String} {after:Array Edge} {guard:Option (Nat×Bool)} {a:Act} {w:World} {Q:Exit→Act→World→Prop}
theorem Jji{m:List Int}(h:Own w B sv l)(hB:B≤w.heap.size)(k:IntsAt w tv m)(hlen:l.length+m.length≤1000000)(hx:a.eval x=sv)(hy:a.eval y=tv)(hw:Region.wanted ⟨dst,.call { callee:=.builtin .append,args:=#[x,y],argTypes:=#[41,41] },t2,pos,after,guard⟩ (yielded ops a.tmps)=true)(hh:∀sv' w',Own w' B sv' (l++m)→Below B w w'→wpList Tryz.prog ops Q rest (a.put dst sv') w'):wpList Tryz.prog ops Q (⟨dst,.call { callee:=.builtin .append,args:=#[x,y],argTypes:=#[41,41] },t2,pos,after,guard⟩::rest) a w:=by
 obtain⟨sv',w',hr,ho,hg⟩:=Jf6 h hB k hlen t2;exact Jo sv' w' hw (Qd a.eval _ x y 41 41 rfl sv tv sv' hx hy hr) (hh sv' w' ho (Kq hg hB fun k hk=>(h.lt k hk).1))
end
theorem Own.lit(w:World)(B:Nat)(hB:B≤w.heap.size)(l:List Int)(hl:l.length≤1000000)(cs:Array Value)(hc:cs=(Jq l).toArray):Own (w.alloc (.cells cs 3)) B (.slice (some ⟨w.heap.size,0,none⟩) l.length l.length) l:=by
 subst hc;exact⟨by simp,.inr ⟨w.heap.size,l.length,_,rfl,hB,heap_alloc_new w _,Nat.le_refl _,by simp only [maxLen];omega,by simp,List.take_of_length_le (by simp)⟩⟩
theorem Own.set(h:Own w B (.slice (some ⟨g,0,none⟩) n cap) l)(i:Nat)(v:Int)(hi:i<l.length):Own (w.setCell ⟨g,i,none⟩ (.int .i64 v)) B (.slice (some ⟨g,0,none⟩) n cap) (l.set i v):=by
 rcases h.2 with ⟨e,_⟩|⟨g',cap',cur,e,hb,hg,hn,hm,hs,ht⟩
 · cases e
 · cases e;refine⟨by simp,.inr ⟨g,cap,cur.setIfInBounds i (.int .i64 v),by rw [List.length_set],hb,?_,by rw [List.length_set];exact hn,hm,by simpa using hs,?_⟩⟩
   · rw [heap_setCell_same w g i cur 3 (.int .i64 v) hg]
   · have e2:(cur.setIfInBounds i (.int .i64 v)).toList=cur.toList.set i (.int .i64 v):=by simp
     rw [e2,List.length_set,List.take_set,ht];simp
instance (g:Gm):Decidable g.Ok:=by unfold Gm.Ok;infer_instance
theorem gbox_below(g:Gm)(w:World):Below w.heap.size w (g.box w):=Zq.alloc Zy _
def _root_.Go.Proofs.YtdbfmikeaoaebaaGreatDoor.Pl.Gm.In(g:Gm)(n:Int):Prop:=4≤n∧n≤4+g.s*g.l-1
instance (g:Gm) (n:Int):Decidable (g.In n):=by unfold Gm.In;infer_instance
def _root_.Go.Proofs.YtdbfmikeaoaebaaGreatDoor.Pl.Gm.seg(g:Gm)(n:Int):Nat:=((n-4)/g.l).toNat
def _root_.Go.Proofs.YtdbfmikeaoaebaaGreatDoor.Pl.Gm.segs(g:Gm):Nat:=g.s.toNat
theorem _root_.Go.Proofs.YtdbfmikeaoaebaaGreatDoor.Pl.Gm.Ok.segs{g:Gm}(h:g.Ok):g.s=(g.segs:Int)∧6≤g.segs∧g.segs≤16:=by
 obtain⟨_,⟨h3,h4⟩,_,_⟩:=h;unfold Gm.segs;omega
theorem _root_.Go.Proofs.YtdbfmikeaoaebaaGreatDoor.Pl.Gm.Ok.seg{g:Gm}(h:g.Ok){n:Int}(hn:g.In n):(n-4)/g.l=(g.seg n:Int)∧g.seg n<g.segs:=by
 obtain⟨hs,_⟩:=h.segs;obtain⟨_,⟨h3,h4⟩,⟨h5,h6⟩,_⟩:=h;obtain⟨n0,n1⟩:=hn;have a:0≤(n-4)/g.l:=Int.ediv_nonneg (by omega) (by omega);have b:(n-4)/g.l<g.s:=Int.ediv_lt_of_lt_mul (by omega) (by omega);unfold Gm.seg;omega
def YX(n:Nat):List Int:=List.replicate n 0
theorem take_snoc{α:Type}{l:List α}{x:α}(h:l[k]? = some x):l.take (k+1)=l.take k++[x]:=by
 rw [List.take_add_one,h];rfl
def YY(g:Gm)(l:List Int)(s:Nat):Nat:=l.countP fun n=>decide (g.In n)&&(g.seg n == s)
theorem jZ(g:Gm)(a b:List Int)(s:Nat):YY g (a++b) s=YY g a s+YY g b s:=by simp [YY,List.countP_append]
theorem Jf7(g:Gm)(l:List Int)(s:Nat):YY g l s≤l.length:=List.countP_le_length
theorem J0a(g:Gm)(n:Int)(s:Nat):YY g [n] s=if g.In n∧g.seg n=s then 1 else 0:=by
 by_cases h:g.In n <;> by_cases k:g.seg n=s <;> simp [YY,h,k]
def QC(g:Gm)(l:List Int):List Int:=(List.range g.segs).map fun s=>(YY g l s:Int)
theorem KU(g:Gm)(l:List Int):(QC g l).length=g.segs:=by simp [QC]
theorem YU{g:Gm}{s:Nat}(h:s<g.segs):(QC g l)[s]? = some (YY g l s:Int):=by simp [QC,h]
theorem qA(g:Gm):QC g []=YX g.segs:=by
 refine List.ext_getElem? fun i=>?_
 by_cases h:i<g.segs
 · rw [YU h];simp [YX,YY,h]
 · rw [List.getElem?_eq_none (by rw [KU];omega),List.getElem?_eq_none (by simp [YX];omega)]
theorem J72{g:Gm}{n:Int}(hk:l[k]? = some n)(hn:¬g.In n):QC g (l.take (k+1))=QC g (l.take k):=by
 unfold QC;rw [take_snoc hk];refine List.map_congr_left fun s _=>?_;rw [jZ,J0a,if_neg fun h=>hn h.1];rfl
theorem J31{g:Gm}{n:Int}(hk:l[k]? = some n)(hn:g.In n):QC g (l.take (k+1))=(QC g (l.take k)).set (g.seg n) ((YY g (l.take k) (g.seg n):Nat)+1:Int):=by
 refine List.ext_getElem? fun i=>?_
 by_cases h:i<g.segs
 · rw [YU h,List.getElem?_set,KU,take_snoc hk,jZ,J0a]
   by_cases e:g.seg n=i
   · rw [if_pos ⟨hn,e⟩,if_pos e,if_pos (by omega),e];rfl
   · rw [if_neg fun h=>e h.2,if_neg e,YU h];rfl
 · rw [List.getElem?_eq_none (by rw [KU];omega),List.getElem?_eq_none (by rw [List.length_set,KU];omega)]
def cts(g:Gm)(l:List Int):List Int:=if g.Ok then QC g l else []
theorem J4q{g:Gm}(h:g.Ok)(l:List Int):cts g l=QC g l:=if_pos h
theorem Ji3{g:Gm}(h:¬g.Ok)(l:List Int):cts g l=[]:=if_neg h
def XN(l:List Int)(h:Int)(n:Nat):List Int:=((List.range n).filter fun i=>l.getD i 1 == 0&&decide ((i:Int)≠h)).map fun i:Nat=>(i:Int)
def J0b(l:List Int)(h:Int):List Int:=XN l h l.length
theorem J32{h:Int}(hk:l[k]? = some 0)(hh:(k:Int)≠h):XN l h (k+1)=XN l h k++[(k:Int)]:=by
 simp [XN,List.range_succ,List.filter_append,hk,hh]
theorem J73{h:Int}{x:Int}(hk:l[k]? = some x)(hx:¬(x=0∧(k:Int)≠h)):XN l h (k+1)=XN l h k:=by
 simp only [XN,List.range_succ,List.filter_append,List.map_append];have e:(l.getD k 1 == 0&&decide ((k:Int)≠h))=false:=by
  rw [List.getD_eq_getElem?_getD,hk]
  by_cases a:x=0
  · have b:(k:Int)=h:=Classical.byContradiction fun b=>hx ⟨a,b⟩;simp [a,b]
  · simp [a]
 simp only [List.filter_cons,e,Bool.false_eq_true,if_false,List.filter_nil,List.map_nil,List.append_nil]
theorem J74(l:List Int)(h:Int)(n:Nat):(XN l h n).length≤n:=by
 simpa [XN] using Nat.le_trans (List.length_filter_le _ _) (by simp)
theorem Own.cell(h:Own w B (.slice (some ⟨g,0,none⟩) n cap) l){x:Int}(hx:l[i]? = some x):w.cell? ⟨g,i,none⟩=some (.int .i64 x)∧w.frozen? ⟨g,i,none⟩=false:=by
 have h0:=h;rcases h.2 with ⟨e,_⟩|⟨g',cap',cur,e,hb,hg,hn,hm,hs,ht⟩
 · cases e
 · cases e;refine⟨?_,frozen_of_row w g i _ _ hg⟩;have hi:=(Zg hx).1;rw [World.ownsRow.cellAt h0 i (by omega),List.getElem?_map,hx];rfl
theorem J75(n:Int)(b:Bool)(w:World):Calls Tryz.prog 127 #[.int .i64 0,.int .i64 n,.bool b] w fun e w'=>e=.returned (.bool (!(decide (n=0)&&!b)))∧w=w':=by
 cases b with
 | true =>
  go_enter Tryz.func127,Tryz.ntmps127
  go_wp2_with fail
  go_ret;exact⟨Jb (by simp),rfl⟩
 | false =>
  rcases Int.lt_trichotomy n 0 with h|h|h
  · have h1:¬0<n:=by omega
    have H:Hid (n≠0):=Zh (by omega);go_enter Tryz.func127,Tryz.ntmps127
    go_wp2_with fail
    go_ret;exact⟨Jb (by simp [H.out]),rfl⟩
  · subst h;go_enter Tryz.func127,Tryz.ntmps127
    go_wp2_with fail
    go_ret;exact⟨Jb (by simp),rfl⟩
  · have H:Hid (n≠0):=Zh (by omega);go_enter Tryz.func127,Tryz.ntmps127
    go_wp2_with fail
    go_ret;exact⟨Jb (by simp [H.out]),rfl⟩
theorem Jbo(l:List Int)(hn:l.length≤1000)(h:Int)(sv:Value)(w:World)(hs:IntsAt w sv l) :
 Calls Tryz.prog 100 #[sv,.int .i64 h] w fun e w'=>∃rv,e=.returned rv∧Own w' w.heap.size rv (J0b l h)∧Below w.heap.size w w':=by
 obtain⟨a,cap,rfl,hc⟩:=hs;have HL:=Zh hc;have HP:=Zh fun n b W=>J75 n b W;clear hc;unfold J0b;go_enter Tryz.func100,Tryz.ntmps100
 go_wp2_with fail
 go_loopg [10,5] l.length (fun q i s wr=>∃(k:Nat) (ov:Value),ov=s∧l.length-k≤q∧k≤l.length∧i=.int .i64 k∧Own wr w.heap.size ov (XN l h k)∧Below w.heap.size w wr)
 case atStart=>exact⟨0,_,rfl,by omega,by omega,rfl,Own.nil _ _,Below.refl _ _⟩
 case round =>
  obtain⟨k,ov,rfl,hq,hk,rfl,ho,hb⟩:=hrel;have HO:=Zh ho;have HW:=Zh hb;clear ho hb
  by_cases hlt:k<l.length
  · have hk1:(k:Int)<(l.length:Int):=by omega
    have hlk:l[k]? = some l[k]:=by simp [hlt]
    obtain⟨b,o,rfl,c1⟩:=HL.out k l[k] hlk;have d1:=(HW.cell (block_lt_of_cell c1)).trans c1;have HY:=Zh (J32 (l:=l) (h:=h) (k:=k));have HZ:=Zh (J73 (h:=h) hlk);generalize l[k]=x at *
    by_cases hx:x=0∧(k:Int)≠h
    · obtain⟨rfl,hx2⟩:=hx;have HC:=Zh (HY.out hlk hx2);have e1:((k:Int) == h)=false:=by simpa using hx2
      have H3:=Zh (HP.out 0 false);rw [show (!(decide ((0:Int)=0)&&!false))=false from rfl] at H3;clear HY HZ hx2 hlk c1
      go_wp2_with fail
      refine (H3.out _).mono ?_;rintro e w1 ⟨rfl,rfl⟩;go_upto_region 6 with fail;refine Zl ?_;refine tk (ov) ?_;refine tk (.int .i64 k) ?_;refine Jo (.slice (some ⟨wr.heap.size,0,none⟩) 1 1) (wr.alloc (.cells #[.int .i64 k] 3)) rfl (by go_simp) ?_;refine nm ?_;have hbl:Below wr.heap.size wr (wr.alloc (.cells #[.int .i64 k] 3)):=Zq.alloc Zy _;have hli:Own (wr.alloc (.cells #[.int .i64 k] 3)) wr.heap.size (.slice (some ⟨wr.heap.size,0,none⟩) 1 1) [(k:Int)]:=Own.lit wr wr.heap.size Zy [(k:Int)] (by simp) _ rfl;have hle:=J74 l h k;refine Jji (HO.below hbl) (Nat.le_trans HW.size hbl.size) hli.ints (by simp only [List.length_cons,List.length_nil];omega) rfl rfl rfl ?_;intro s2 w2 ho2 hb2;refine nm ?_;refine tk (s2) ?_;refine Zn ?_;have HO2:=Zh ho2;have HB2:=Zh ((HW.trans (hbl.mono HW.size)).trans hb2);clear hbl hli ho2 hb2 hle
      go_wp2_with fail
      go_roundg (l.length-(k+1))
      case measure=>omega
      case rel=>exact⟨k+1,_,rfl,by omega,by omega,by go_num,by rw [HC.out];exact HO2.out,HB2.out⟩
    · have HC:=Zh (HZ.out hx)
      by_cases hkh:(k:Int)=h
      · have e1:((k:Int) == h)=true:=by simpa using hkh
        have H3:=Zh (HP.out x true);rw [show (!(decide (x=0)&&!true))=true by simp] at H3;clear HY HZ hx hlk c1 hkh
        go_wp2_with fail
        refine (H3.out _).mono ?_;rintro e w1 ⟨rfl,rfl⟩
        go_wp2_with fail
        go_roundg (l.length-(k+1))
        case measure=>omega
        case rel=>exact⟨k+1,_,rfl,by omega,by omega,by go_num,by rw [HC.out];exact HO.out,HW.out⟩
      · have e1:((k:Int) == h)=false:=by simpa using hkh
        have H3:=Zh (HP.out x false);rw [show (!(decide (x=0)&&!false))=true by simp;exact fun a=>hx ⟨a,hkh⟩] at H3;clear HY HZ hx hlk c1 hkh
        go_wp2_with fail
        refine (H3.out _).mono ?_;rintro e w1 ⟨rfl,rfl⟩
        go_wp2_with fail
        go_roundg (l.length-(k+1))
        case measure=>omega
        case rel=>exact⟨k+1,_,rfl,by omega,by omega,by go_num,by rw [HC.out];exact HO.out,HW.out⟩
  · obtain rfl:k=l.length:=by omega
    have hk1:¬(l.length:Int)<(l.length:Int):=by omega
    go_wp2_with fail
    go_ret;exact⟨_,rfl,HO.out,HW.out⟩
theorem make24(n:Nat)(hn:n≤64)(w:World):(Instr.makeSlice 41 (.int .i64 (n:Int)) (.int .i64 (n:Int))).run Tryz.prog w=.ok (.slice (some ⟨w.heap.size,0,none⟩) n n) (w.alloc (.cells (Jq (YX n)).toArray 3)):=by
 obtain⟨i,hi,hz,hs,hb⟩:=J5d;have:=run_makeSlice (P:=Tryz.prog) w 41 3 i _ Tryz.underlying41 hi hz .i64 .i64 n n (by omega) (Int.le_refl _) (by rw [hs];omega) (by rw [hb];omega) (by omega);rw [hs] at this;have e:madeCells #[.int .i64 0] n=(Jq (YX n)).toArray:=by
  apply Array.ext_getElem?;intro q
  by_cases hq:q<n
  · simp [madeCells,hq,YX,Nat.mod_one]
  · rw [Array.getElem?_eq_none (by rw [size_madeCells];omega),Array.getElem?_eq_none (by simp [YX];omega)]
 rw [←e];simpa [Value.cells] using this
theorem Jbp(n:Nat)(hn:n≤64)(w:World):Own (w.alloc (.cells (Jq (YX n)).toArray 3)) w.heap.size (.slice (some ⟨w.heap.size,0,none⟩) n n) (YX n):=by
 have h:=Own.lit w w.heap.size Zy (YX n) (by simp [YX];omega) _ rfl
 rwa [show (YX n).length=n by simp [YX]] at h
theorem J0c(w:World)(o:Obj):Below w.heap.size w (w.alloc o):=Zq.alloc Zy _
theorem Jbq(g:Gm)(h:¬g.Ok)(l:List Int)(sv:Value)(w:World):Calls Tryz.prog 101 #[g.v,sv] w fun e w'=>∃rv,e=.returned rv∧Own w' w.heap.size rv (cts g l)∧Below w.heap.size w w':=by
 have H:=Zh fun w=>ZG g h w;have HC:=Zh (Ji3 h l);clear h;go_enter Tryz.func101,Tryz.ntmps101
 go_wp2_with fail
 refine (H.out _).mono ?_;rintro e w1 ⟨rfl,hb⟩;have HB:=Zh (KY hb);clear hb
 go_wp2_with fail
 go_ret;exact⟨_,rfl,by rw [HC.out];exact Own.nil _ _,HB.out.1⟩
theorem J76(g:Gm)(h:g.Ok)(l:List Int)(hn:l.length≤1000)(sv:Value)(w:World)(hs:IntsAt w sv l) :
 Calls Tryz.prog 101 #[g.v,sv] w fun e w'=>∃rv,e=.returned rv∧Own w' w.heap.size rv (cts g l)∧Below w.heap.size w w':=by
 rw [J4q h];obtain⟨a,cap,rfl,hc⟩:=hs;have H:=Zh fun w=>JX g h w;have HL:=Zh hc;have HS:=Zh fun n (hn:g.In n)=>h.seg hn;obtain⟨n,hsegs⟩:∃n,g.segs=n:=⟨_,rfl⟩
 have HN:Hid (g.segs=n):=hsegs;obtain⟨hg,hn6,hn16⟩:=h.segs;rw [hsegs] at hg hn6 hn16;have HG:=Zh hg;have MK:=fun w=>make24 n (by omega) w;have HI:=Zh fun n (hn:g.In n) W=>Rn.of_in g h n hn W;have HU:=Zh fun n (hn:¬g.In n) W=>Rn.of_out g h n hn W;clear h hc hg hsegs;go_enter Tryz.func101,Tryz.ntmps101
 go_wp2_with fail
 refine (H.out _).mono ?_;rintro e w1 ⟨rfl,hb⟩;have HB:=Zh (KY hb);clear hb;have c1:=HB.out.2.1.s;rw [HG.out] at c1
 go_wp2_with fail
 clear c1;obtain⟨r,hr⟩:∃r,w1.heap.size=r:=⟨_,rfl⟩
 have HMO:Hid (Own (w1.alloc (.cells (Jq (YX n)).toArray 3)) r (.slice (some ⟨r,0,none⟩) n n) (YX n)):=Zh (by rw [←hr];exact Jbp n (by omega) w1);have HMB:Hid (Below r w1 (w1.alloc (.cells (Jq (YX n)).toArray 3))):=Zh (by rw [←hr];exact J0c w1 _);have HR:=Zh hr;simp only [hr];clear hr
 go_loopg [19] l.length (fun q i wr=>∃k:Nat,l.length-k≤q∧k≤l.length∧i=.int .i64 k∧Own wr r (.slice (some ⟨r,0,none⟩) n n) (QC g (l.take k))∧Below r w1 wr)
 case atStart=>exact⟨0,by omega,by omega,rfl,by rw [List.take_zero,qA,HN.out];exact HMO.out,HMB.out⟩
 case round =>
  clear HMO HMB;obtain⟨k,hq,hk,rfl,ho,hb⟩:=hrel;have HO:=Zh ho;have HW:=Zh hb;have HX:=Zh (ZH HB.out (hb.mono (by rw [HR.out];exact Nat.le_refl _)));clear ho hb
  by_cases hlt:k<l.length
  · have hk1:(k:Int)<(l.length:Int):=by omega
    have hlk:l[k]? = some l[k]:=by simp [hlt]
    obtain⟨b,o,rfl,x1⟩:=HL.out k l[k] hlk;have d1:=(HX.out.1.cell (block_lt_of_cell x1)).trans x1;generalize l[k]=x at *;have HLK:=Zh hlk;clear x1 hlk;obtain⟨c0,c1,c2,c3⟩:=HX.out.2.1
    by_cases hx:g.In x
    · have H3:=Zh (HI.out x hx);obtain⟨u0,u1⟩:=HS.out x hx;rw [u0] at H3;have HC:=Zh (J31 HLK.out hx);have HA:Hid ((QC g (l.take k))[g.seg x]? = some (YY g (l.take k) (g.seg x):Int)):=Zh (YU u1);have hle:=Jf7 g (l.take k) (g.seg x);have hle2:(l.take k).length≤1000:=by simp;omega
      obtain⟨u,hu⟩:∃u,g.seg x=u:=⟨_,rfl⟩
      rw [hu] at H3 HC HA u1 hle;obtain⟨z,hz⟩:∃z,YY g (l.take k) u=z:=⟨_,rfl⟩
      rw [hz] at HC HA hle;rw [HN.out] at u1;generalize (x-4)%g.l=o2 at *;clear u0 hu hz hx
      go_wp2_with fail
      refine (H3.out _).mono ?_;rintro e w2 ⟨rfl,hb⟩;have HO2:=Zh (HO.below hb);have HW2:=Zh (HW.trans (hb.mono (by rw [←HR.out];exact HW.size)));clear hb;obtain⟨q0,q1⟩:=HO2.cell HA.out
      go_wp2_with fail
      go_roundg (l.length-(k+1))
      case measure=>omega
      case rel=>exact⟨k+1,by omega,by omega,by go_num,by rw [HC.out];exact HO2.set u _ (by rw [KU,HN.out];exact u1),HW2.setCell Zy _⟩
    · have H3:=Zh (HU.out x hx);have HC:=Zh (J72 HLK.out hx);clear hx
      go_wp2_with fail
      refine (H3.out _).mono ?_;rintro e w2 ⟨rfl,hb⟩;have HO2:=Zh (HO.below hb);have HW2:=Zh (HW.trans (hb.mono (by rw [←HR.out];exact HW.size)));clear hb
      go_wp2_with fail
      go_roundg (l.length-(k+1))
      case measure=>omega
      case rel=>exact⟨k+1,by omega,by omega,by go_num,by rw [HC.out];exact HO2.out,HW2.out⟩
  · obtain rfl:k=l.length:=by omega
    have hk1:¬(l.length:Int)<(l.length:Int):=by omega
    have HT:Hid (l.take l.length=l):=Zh List.take_length;rw [HT.out] at HO
    go_wp2_with fail
    go_ret;exact⟨_,rfl,HO.mono (by rw [←HR.out];exact HB.out.1.size),HX.out.1⟩
theorem count_any(g:Gm)(l:List Int)(hn:l.length≤1000)(sv:Value)(w:World)(hs:IntsAt w sv l) :
 Calls Tryz.prog 101 #[g.v,sv] w fun e w'=>∃rv,e=.returned rv∧Own w' w.heap.size rv (cts g l)∧Below w.heap.size w w':=by
 by_cases h:g.Ok
 · exact J76 g h l hn sv w hs
 · exact Jbq g h l sv w
end Us
variable {k:Nat} {l:List Int}
namespace Hs
open Pl
def cnt(l:List Int):Nat:=(l.filter fun x=>x != 0).length
theorem Jbr(l:List Int):cnt l≤l.length:=List.length_filter_le _ _
theorem take_snoc{α:Type}{l:List α}{x:α}(h:l[k]? = some x):l.take (k+1)=l.take k++[x]:=by
 rw [List.take_add_one,h];rfl
theorem Zs(l m:List Int):cnt (l++m)=cnt l+cnt m:=by simp [cnt]
theorem Jf8{x:Int}(h:l[k]? = some x)(hx:x≠0):cnt (l.take (k+1))=cnt (l.take k)+1:=by
 rw [take_snoc h,Zs];simp [cnt,hx]
theorem Ji4(h:l[k]? = some 0):cnt (l.take (k+1))=cnt (l.take k):=by
 rw [take_snoc h,Zs];simp [cnt]
theorem J0d(l:List Int)(k:Nat):cnt (l.take k)≤k:=Nat.le_trans (Jbr _) (by simp;omega)
theorem count_any(l:List Int)(hn:l.length≤1000)(sv:Value)(w:World)(h:IntsAt w sv l):Calls Tryz.prog 125 #[sv] w fun e w'=>e=.returned (.int .i64 (cnt l))∧w=w':=by
 obtain⟨a,cap,rfl,hc⟩:=h;have HC:=Zh hc;clear hc;go_enter Tryz.func125,Tryz.ntmps125
 go_wp2_with fail
 go_loopg [8,3] l.length (fun q i n wr=>∃k:Nat,l.length-k≤q∧k≤l.length∧i=.int .i64 k∧n=.int .i64 (cnt (l.take k))∧w=wr)
 case atStart=>exact⟨0,by omega,by omega,rfl,rfl,rfl⟩
 case round =>
  obtain⟨k,hg,hk,rfl,rfl,rfl⟩:=hrel;have hle:=J0d l k
  by_cases hlt:k<l.length
  · have hlk:l[k]? = some l[k]:=by simp [hlt]
    obtain⟨b,o,rfl,c1⟩:=HC.out k l[k] hlk;generalize l[k]=x at *;have HL:=Zh hlk;clear hlk;have hk1:(k:Int)<(l.length:Int):=by omega
    by_cases hx:x=0
    · subst hx
      go_wp2_with fail
      go_roundg (l.length-(k+1))
      case measure=>omega
      case rel=>exact⟨k+1,by omega,by omega,by go_num,by rw [Ji4 HL.out],rfl⟩
    · have e1:(x != 0)=true:=by simpa using hx
      have HX:=Zh hx;clear hx
      go_wp2_with fail
      go_roundg (l.length-(k+1))
      case measure=>omega
      case rel=>exact⟨k+1,by omega,by omega,by go_num,by rw [Jf8 HL.out HX.out];go_num,rfl⟩
  · obtain rfl:k=l.length:=by omega
    have HT:Hid (l.take l.length=l):=Zh List.take_length
    go_wp2_with fail
    go_ret;exact⟨by rw [HT.out];rfl,rfl⟩
end Hs
variable {X:List (List Int)} {b:Bk} {g:Pl.Gm} {h id p:Int} {l:List (Int×Bk)} {n:Nat} {r:List Bk}
def Q6(X:List (List Int))(g:Pl.Gm)(id p:Int):Option Bk :=
 if (4≤p∧p≤4+g.s*g.l-1)∧JT (X.getD p.toNat [])=true∧(Qm (X.getD p.toNat [])).kind≠3∧(Qm (X.getD p.toNat [])).id=id then some (Qm (X.getD p.toNat [])) else none
def Jr(X:List (List Int))(g:Pl.Gm)(id:Int):Nat→Int→Option (List (Int×Bk))
 | 0,h=>if h=1 then some [] else none
 | n+1,h=>if h=1 then some [] else match Q6 X g id h with
  | none=>none
  | some b=>if b.kind=1 then some [(h,b)] else (Jr X g id n b.prev).map ((h,b)::·)
theorem XF(h:Q6 X g id p=some b):(4≤p∧p≤4+g.s*g.l-1)∧b.good=true∧b.kind≠3∧b.id=id:=by
 unfold Q6 at h;split at h
 · rename_i hc
   obtain⟨h1,h2,h3,h4⟩:=hc;cases h;refine⟨h1,?_,h3,h4⟩;have e:Qm (X.getD p.toNat [])=readOf (X.getD p.toNat []):=if_pos h2;rw [e];simp [JT] at h2;exact h2.1
 · cases h
theorem KG(X:List (List Int))(g:Pl.Gm)(id:Int)(n:Nat):Jr X g id n 1=some []:=by cases n <;> simp [Jr]
theorem Q7(h1:h≠1)(hb:Q6 X g id h=some b):Jr X g id (n+1) h=if b.kind=1 then some [(h,b)] else (Jr X g id n b.prev).map ((h,b)::·):=by
 rw [Jr,if_neg h1,hb]
theorem XZ(h1:h≠1)(hb:Q6 X g id h=none):Jr X g id n h=none:=by
 cases n with
 | zero=>simp [Jr,h1]
 | succ n=>rw [Jr,if_neg h1,hb]
theorem k8:∀{n:Nat} {h:Int} {l:List (Int×Bk)},Jr X g id n h=some l→Fo.K3 id (l.map (·.2))=true∧l.length≤n
 | 0,h,l,e=>by
  unfold Jr at e;split at e
  · cases e;exact⟨rfl,Nat.le_refl _⟩
  · cases e
 | n+1,h,l,e=>by
  by_cases h1:h=1
  · subst h1;rw [KG] at e;cases e;exact⟨rfl,Nat.zero_le _⟩
  · cases hb:Q6 X g id h with
    | none=>rw [XZ h1 hb] at e;cases e
    | some b =>
     obtain⟨-,hg,h3,hid⟩:=XF hb;rw [Q7 h1 hb] at e
     by_cases hk:b.kind=1
     · rw [if_pos hk] at e;cases e;refine⟨?_,by simp⟩;simp [Fo.K3,Fo.okAt,hg,h3,hid,Bk.ends,hk]
     · rw [if_neg hk] at e;cases hc:Jr X g id n b.prev with
       | none=>rw [hc] at e;cases e
       | some l' =>
        rw [hc] at e;cases e;obtain⟨i1,i2⟩:=k8 hc;refine⟨?_,by simp;omega⟩;have he:b.ends=l'.isEmpty:=by
         by_cases hp:b.prev=1
         · rw [hp,KG] at hc;cases hc;simp [Bk.ends,hp]
         · have hl:l'≠[]:=fun e0=>by
            subst e0;cases n with
            | zero=>simp [Jr,hp] at hc
            | succ n =>
             cases hb2:Q6 X g id b.prev with
             | none=>rw [XZ hp hb2] at hc;cases hc
             | some c =>
              rw [Q7 hp hb2] at hc;split at hc
              · cases hc
              · cases hd:Jr X g id n c.prev with
                | none=>rw [hd] at hc;cases hc
                | some l2=>rw [hd] at hc;cases hc
           have:l'.isEmpty=false:=by cases l' with
            | nil=>exact absurd rfl hl
            | cons=>rfl
           rw [this];simp [Bk.ends,hk,hp]
        simp only [List.map_cons,Fo.K3,Fo.okAt,hg,hid,he,Bool.and_eq_true,i1,and_true];simp [h3]
theorem yD(h:Fo.K3 id (b::r)=true):b.id=id:=by
 simp [Fo.K3,Fo.okAt] at h;exact h.1.1.2
theorem XG(e:Jr X g id 3 h=some l):Fo.kn (l.map (·.2))=Fo.Q5 (l.map (·.2))∧Fo.jG (l.map (·.2))=0:=by
 obtain⟨h1,h2⟩:=k8 e;have hc:Fo.JF (l.map (·.2))=true:=by
  cases l with
  | nil=>rfl
  | cons p r =>
   have hi:=yD h1;simp only [List.map_cons] at h1 ⊢;simp only [Fo.JF];rw [hi,h1];simp;simpa using h2
 unfold Fo.kn Fo.jG;rw [if_pos hc,if_pos hc];exact⟨rfl,rfl⟩
variable {P:List (List It×List Int)} {S X:List (List Int)} {a b:Ja} {g:Pl.Gm} {i:Nat} {q:Int} {x:It}
def ItIn(S:List (List Int))(x:It)(q:Int):Prop:=(x.has=true→∃(k:Nat) (m:Int),(0≤m∧m<4294967296)∧q=(k:Int)∧S[k]? = some (x.blk.sec m))∧(x.has=false→q=-1)
theorem ItIn.more(h:ItIn S x q)(T:List (List Int)):ItIn (S++T) x q :=
 ⟨fun hx=>by
  obtain⟨k,m,hm,e,hk⟩:=h.1 hx
  have:=(Zg hk).1
  exact⟨k,m,hm,e,by rw [List.getElem?_append_left this];exact hk⟩,h.2⟩
theorem yE(n:Int)(hn:0≤n∧n<4294967296):∀(p:List It) (S:List (List Int)) {i:Nat} {x:It},p[i]? = some x→∃q,(XR S.length p)[i]? = some q∧ItIn (S++Ku n p) x q
 | [],S,i,x,h=>by simp at h
 | y::r,S,i,x,h=>by
  cases hy:y.has with
  | true =>
   have eb:Ku n (y::r)=y.blk.sec n::Ku n r:=by simp [Ku,hy]
   have ea:XR S.length (y::r)=(S.length:Int)::XR (S.length+1) r:=by simp [XR,hy]
   rw [eb,ea];cases i with
   | zero =>
    simp at h;subst h;exact⟨_,rfl,⟨fun _=>⟨S.length,n,hn,rfl,by simp⟩,fun h=>(by rw [hy] at h;cases h)⟩⟩
   | succ i =>
    have:=yE n hn r (S++[y.blk.sec n]) (i:=i) (x:=x) (by simpa using h);rw [List.length_append,List.length_singleton,List.append_assoc] at this;exact this
  | false =>
   have eb:Ku n (y::r)=Ku n r:=by simp [Ku,hy]
   have ea:XR S.length (y::r)=-1::XR S.length r:=by simp [XR,hy]
   rw [eb,ea];cases i with
   | zero =>
    simp at h;subst h;exact⟨_,rfl,⟨fun h=>(by rw [hy] at h;cases h),fun _=>rfl⟩⟩
   | succ i=>exact yE n hn r S (i:=i) (x:=x) (by simpa using h)
theorem qB(n:Int)(l:List It):∀k,24*k<l.length+24→(Js n l k).2.length=min (24*k) l.length∧∀{i:Nat} {x:It},l[i]? = some x→i<24*k→∃q,(Js n l k).2[i]? = some q∧ItIn (Js n l k).1 x q
 | 0,_=>⟨by simp [Js],fun _ h=>by omega⟩
 | k+1,hk=>by
  obtain⟨i1,i2⟩:=qB n l k (by omega);have e:Js n l (k+1)=((Js n l k).1++[JN ((n+k)%M32) (decide (24*k+24<l.length)) (Qe l k)]++Ku ((n+k)%M32) (Qe l k),(Js n l k).2++XR ((Js n l k).1.length+1) (Qe l k)):=by
   rw [Js,Xe,Xf];simp
  rw [e];have hc:(Qe l k).length=min 24 (l.length-24*k):=by simp [Qe]
  refine⟨by simp only [List.length_append,Yt,i1,hc];omega,fun {i x} hx hi=>?_⟩;have hil:i<l.length:=(Zg hx).1
  by_cases hlt:i<24*k
  · obtain⟨q,h1,h2⟩:=i2 hx hlt;have:=(Zg h1).1;exact⟨q,by rw [List.getElem?_append_left this];exact h1,by rw [List.append_assoc];exact h2.more _⟩
  · have hx':(Qe l k)[i-24*k]? = some x:=by
     unfold Qe;rw [List.getElem?_take_of_lt (by omega),List.getElem?_drop,show 24*k+(i-24*k)=i by omega];exact hx
    obtain⟨q,h1,h2⟩:=yE ((n+k)%M32) ⟨Int.emod_nonneg _ (by decide),Int.emod_lt_of_pos _ (by decide)⟩ (Qe l k) ((Js n l k).1++[JN ((n+k)%M32) (decide (24*k+24<l.length)) (Qe l k)]) hx';refine⟨q,?_,h2⟩;rw [List.getElem?_append_right (by omega),i1,show i-min (24*k) l.length=i-24*k by omega];simpa using h1
theorem Jf9(n:Int)(l:List It)(hx:l[i]? = some x):∃q,(Jd n l).2[i]? = some q∧ItIn (Jd n l).1 x q:=by
 have hi:i<l.length:=(Zg hx).1;exact (qB n l (parts l.length) (by unfold parts;omega)).2 hx (by unfold parts;omega)
theorem k9(n:Int)(l:List It):(Jd n l).2.length=l.length:=by
 have:=(qB n l (parts l.length) (by unfold parts;omega)).1;unfold Jd;rw [this];unfold parts;omega
def Stands(X:List (List Int))(g:Pl.Gm)(x:It)(p:Int):Prop:=(x.has=true→(4≤p∧p≤4+g.s*g.l-1)∧∃m,(0≤m∧m<4294967296)∧X[p.toNat]? = some (x.blk.sec m))∧(x.has=false→p=0)
theorem Rcd.stands(h:Rcd X g a P b):∀q∈P,q.1.length=q.2.length∧∀(i:Nat) (x:It),q.1[i]? = some x→∃p,q.2[i]? = some p∧Stands X g x p:=by
 induction h with
 | nil=>exact fun q hq=>by cases hq
 | @snoc P b b1 l hr hg hn hs hm hw hX hk ih =>
  intro q hq;rcases List.mem_append.1 hq with hq|hq
  · exact ih q hq
  · obtain rfl:=List.mem_singleton.1 hq;obtain⟨f,hf,hf4,hfn⟩:=hn.first;refine⟨by simp [pOf,k9],fun i x hx=>?_⟩;obtain⟨c,h1,h2⟩:=Jf9 b.seq l hx;refine⟨Xx (J6 g b1) c,by simp [pOf,h1],fun hh=>?_,fun hh=>?_⟩
    · obtain⟨k,m,hm,rfl,hk2⟩:=h2.1 hh;have hkl:=(Zg hk2).1;have e:Xx (J6 g b1) (k:Int)=((f+k:Nat):Int):=by unfold Xx;rw [if_pos (by omega),hf];omega
      rw [e];refine⟨⟨by omega,by omega⟩,m,hm,?_⟩;have:=hX k _ hk2;rw [hf] at this;rw [Int.toNat_natCast];simpa using this
    · rw [h2.2 hh];rfl
variable {P:List (List It×List Int)} {X:List (List Int)} {a b b1:Ja} {g:Pl.Gm} {l:List It} {p:Int} {x:It}
theorem Jfa(hp:p∈pOf g b b1 l)(h0:p≠0):∃c,0≤c∧c<((Jd b.seq l).1.length:Int)∧p=J6 g b1+c:=by
 unfold pOf at hp;obtain⟨c,hc,rfl⟩:=List.mem_map.1 hp;obtain⟨i,hi⟩:=List.getElem?_of_mem hc;have h1:0≤c:=by
  by_cases h:0≤c
  · exact h
  · exact absurd (show Xx (J6 g b1) c=0 from if_neg h) h0
 exact⟨c,h1,J6e hi,if_pos h1⟩
theorem Rcd.met(h:Rcd X g a P b):∀q∈P,∀p∈q.2,p≠0→QV g b p:=by
 induction h with
 | nil=>exact fun q hq=>by cases hq
 | @snoc P b b1 l hr hg hn hs hm hw hX hk ih =>
  intro q hq p hp h0;rcases List.mem_append.1 hq with hq|hq
  · exact ye hg hn hs (ih q hq p hp h0)
  · obtain rfl:=List.mem_singleton.1 hq;obtain⟨c,h1,h2,rfl⟩:=Jfa hp h0;exact yf hn h1 h2
theorem Stands.blk(h:Stands X g x p)(hx:x.has=true)(hg:x.blk.good=true)(hw:x.blk.Wf)(h3:x.blk.kind≠3):Q6 X g x.blk.id p=some x.blk:=by
 obtain⟨hp,n,hn,hX⟩:=h.1 hx;have eX:X.getD p.toNat []=x.blk.enc n:=by rw [List.getD_eq_getElem?_getD,hX];exact if_pos hg
 have hb:=jN hg hw n hn;have hd:Qm (x.blk.enc n)=x.blk:=by rw [(q8 hb).1,(kV hg hw n hn).1]
 unfold Q6;rw [eX,hd,if_pos ⟨hp,hb,h3,rfl⟩]
variable {X:List (List Int)} {b:Bk} {g:Pl.Gm} {h head id k p:Int} {l:List (Int×Bk)} {r:List Int}
def bAt(X:List (List Int))(g:Pl.Gm)(p:Int):Option Bk :=
 if (4≤p∧p≤4+g.s*g.l-1)∧JT (X.getD p.toNat [])=true then some (Qm (X.getD p.toNat [])) else none
theorem jd(X:List (List Int))(g:Pl.Gm)(id p:Int):Q6 X g id p=(bAt X g p).bind fun b=>if b.kind≠3∧b.id=id then some b else none:=by
 unfold Q6 bAt
 by_cases h:(4≤p∧p≤4+g.s*g.l-1)∧JT (X.getD p.toNat [])=true
 · rw [if_pos h]
   by_cases k:(Qm (X.getD p.toNat [])).kind≠3∧(Qm (X.getD p.toNat [])).id=id
   · rw [if_pos ⟨h.1,h.2,k.1,k.2⟩];exact (if_pos k).symm
   · rw [if_neg fun c=>k ⟨c.2.2.1,c.2.2.2⟩];exact (if_neg k).symm
 · rw [if_neg h,if_neg fun c=>h ⟨c.1,c.2.1⟩];rfl
theorem Jbs(h:bAt X g p=none):Q6 X g id p=none:=by rw [jd,h];rfl
theorem Jbt(h:bAt X g p=some b)(h3:b.kind≠3)(hi:b.id=id):Q6 X g id p=some b:=by rw [jd,h];exact if_pos ⟨h3,hi⟩
theorem xG(h:bAt X g p=some b)(hn:¬(b.kind≠3∧b.id=id)):Q6 X g id p=none:=by rw [jd,h];exact if_neg hn
def qC(b:Bk):Int:=if b.kind=1 then 1 else b.prev
structure Fol (X:List (List Int)) (g:Pl.Gm) (id head:Int) (l:List (Int×Bk)) (h:Int):Prop where
 few:l.length≤3
 fro:Jr X g id 3 head=(Jr X g id (3-l.length) h).map (l++·)
 las:∀m p b,l=m++[(p,b)]→qC b=h
theorem Fol.start(X:List (List Int))(g:Pl.Gm)(id head:Int):Fol X g id head [] head :=
 ⟨by simp,by simp,fun m p b e=>by simp at e⟩
theorem Fol.next(f:Fol X g id head l h)(h1:h≠1)(hl:l.length<3)(hb:Q6 X g id h=some b):Fol X g id head (l++[(h,b)]) (qC b):=by
 refine⟨by simp;omega,?_,fun m p c e=>?_⟩
 · obtain⟨n,hn⟩:∃n,3-l.length=n+1:=⟨2-l.length,by omega⟩
   rw [f.fro,hn,Q7 h1 hb,List.length_append,List.length_singleton,show 3-(l.length+1)=n by omega];unfold qC
   by_cases hk:b.kind=1
   · rw [if_pos hk,if_pos hk,KG];simp
   · rw [if_neg hk,if_neg hk,Option.map_map];congr 1;funext x;simp
 · have:=List.append_inj_right' e rfl;simp at this;rw [←this.2]
theorem Fol.stop(f:Fol X g id head l h)(h1:h=1):Jr X g id 3 head=some l:=by
 rw [f.fro,h1,KG];simp
theorem Fol.no(f:Fol X g id head l h)(h1:h≠1)(hb:Q6 X g id h=none):Jr X g id 3 head=none:=by
 rw [f.fro,XZ h1 hb];rfl
theorem Xt:∀{l:List Bk},Fo.K3 id (l++[b])=true→b.ends=true
 | [],h=>by
  simp [Fo.K3,Fo.okAt] at h;exact h.2
 | c::r,h=>by
  simp only [List.cons_append,Fo.K3,Bool.and_eq_true] at h;exact Xt h.2
theorem Fol.over(f:Fol X g id head l h)(h1:h≠1)(hl:l.length=3):Jr X g id 3 head=none∧Fo.JF (l.map (·.2))=false:=by
 constructor
 · rw [f.fro,hl];simp [Jr,h1]
 · cases hc:Fo.JF (l.map (·.2)) with
   | false=>rfl
   | true =>
    exfalso;obtain⟨m,q,rfl⟩:∃m q,l=m++[q]:=⟨_,_,(List.dropLast_concat_getLast (List.ne_nil_of_length_pos (by omega))).symm⟩
    have hx:=f.las m q.1 q.2 rfl;have he:q.2.ends=true:=by
     rw [List.map_append] at hc;simp only [List.map_cons,List.map_nil] at hc;cases hm:m.map (·.2) with
     | nil=>rw [hm] at hc;simp [Fo.JF] at hc;exact Xt (l:=[]) hc
     | cons c r =>
      rw [hm] at hc;simp only [List.cons_append,Fo.JF,Bool.and_eq_true] at hc;exact Xt (l:=c::r) hc.2
    unfold qC at hx;unfold Bk.ends at he
    by_cases hk:q.2.kind=1
    · rw [if_pos hk] at hx;exact h1 hx.symm
    · rw [if_neg hk] at hx;simp [hk] at he;exact h1 (hx.symm.trans he)
def JU(X:List (List Int))(g:Pl.Gm):Int→List Int→Option (List Int)
 | _,[]=>some []
 | k,h::r=>if h=0 then JU X g (k+1) r else match Jr X g k 3 h with
  | none=>none
  | some l=>(JU X g (k+1) r).map (l.map (·.1)++·)
theorem Ko(h0:h=0):JU X g k (h::r)=JU X g (k+1) r:=if_pos h0
theorem Qs(h0:h≠0)(hc:Jr X g k 3 h=some l):JU X g k (h::r)=(JU X g (k+1) r).map (l.map (·.1)++·):=by
 rw [JU,if_neg h0,hc]
theorem qD(h0:h≠0)(hc:Jr X g k 3 h=none):JU X g k (h::r)=none:=by
 rw [JU,if_neg h0,hc]
def KO(R:List Int):List Int:=R.filter (·≠0)
def Ye(X:List (List Int))(g:Pl.Gm)(H R:List Int):Option (List Int):=(JU X g 0 H).map (·++KO R)
def J77(g:Pl.Gm)(seg off p:Int):Prop:=¬((p-4)/g.l=seg∧off≤(p-4)%g.l)
instance (g:Pl.Gm) (seg off p:Int):Decidable (J77 g seg off p):=by unfold J77;infer_instance
def QD(X:List (List Int))(g:Pl.Gm)(H R:List Int)(seg off cap:Int):Option (List Int) :=
 if cap<(H.filter fun x=>x != 0).length then none else match Ye X g H R with
 | none=>none
 | some l=>if l.Nodup∧∀p∈l,J77 g seg off p then some l else none
theorem XO:∀{n:Nat} {h:Int} {l:List (Int×Bk)},Jr X g id n h=some l→l.length≤n∧∀q∈l,4≤q.1∧q.1≤4+g.s*g.l-1
 | 0,h,l,e=>by
  unfold Jr at e;split at e
  · cases e;exact⟨Nat.le_refl _,fun q hq=>by cases hq⟩
  · cases e
 | n+1,h,l,e=>by
  by_cases h1:h=1
  · subst h1;rw [KG] at e;cases e;exact⟨Nat.zero_le _,fun q hq=>by cases hq⟩
  · cases hb:Q6 X g id h with
    | none=>rw [XZ h1 hb] at e;cases e
    | some b =>
     have hp:=(XF hb).1;rw [Q7 h1 hb] at e;split at e
     · cases e;exact⟨by simp,fun q hq=>by obtain rfl:=List.mem_singleton.1 hq;exact hp⟩
     · cases hc:Jr X g id n b.prev with
       | none=>rw [hc] at e;cases e
       | some l' =>
        rw [hc] at e;cases e;obtain⟨i1,i2⟩:=XO hc;refine⟨by simp;omega,fun q hq=>?_⟩;rcases List.mem_cons.1 hq with rfl|hq
        · exact hp
        · exact i2 q hq
theorem Zt:∀{H:List Int} {k:Int} {l:List Int},JU X g k H=some l→l.length≤3*H.length∧∀p∈l,4≤p∧p≤4+g.s*g.l-1
 | [],k,l,e=>by
  cases e;exact⟨by simp,fun p hp=>by cases hp⟩
 | h::r,k,l,e=>by
  by_cases h0:h=0
  · rw [Ko h0] at e;obtain⟨i1,i2⟩:=Zt e;exact⟨by simp;omega,i2⟩
  · cases hc:Jr X g k 3 h with
    | none=>rw [qD h0 hc] at e;cases e
    | some c =>
     rw [Qs h0 hc] at e;cases hr:JU X g (k+1) r with
     | none=>rw [hr] at e;cases e
     | some l' =>
      rw [hr] at e;cases e;obtain⟨i1,i2⟩:=Zt hr;obtain⟨j1,j2⟩:=XO hc;refine⟨by simp;omega,fun p hp=>?_⟩;rcases List.mem_append.1 hp with hp|hp
      · obtain⟨q,hq,rfl⟩:=List.mem_map.1 hp;exact j2 q hq
      · exact i2 p hp
theorem YV(hX:∀y∈X,Sc y):∀{n:Nat} {h:Int} {l:List (Int×Bk)},Jr X g id n h=some l→∀b∈l.map (·.2),b.Wf
 | 0,h,l,e=>by
  unfold Jr at e;split at e
  · cases e;exact fun b hb=>by cases hb
  · cases e
 | n+1,h,l,e=>by
  by_cases h1:h=1
  · subst h1;rw [KG] at e;cases e;exact fun b hb=>by cases hb
  · cases hb:Q6 X g id h with
    | none=>rw [XZ h1 hb] at e;cases e
    | some b =>
     have hw:b.Wf:=by
      have hp:=(XF hb).1;unfold Q6 at hb;split at hb
      · cases hb;unfold Qm;split
        · rename_i h2 h3
          refine readOf_wf (hX _ ?_);rw [List.getD_eq_getElem?_getD];cases hq:X[h.toNat]? with
          | none=>rw [List.getD_eq_getElem?_getD,hq] at h3;exact absurd h3 (by decide)
          | some y=>exact List.mem_of_getElem? hq
        · exact none_wf
      · cases hb
     rw [Q7 h1 hb] at e;split at e
     · cases e;intro c hc;simp at hc;subst hc;exact hw
     · cases hc:Jr X g id n b.prev with
       | none=>rw [hc] at e;cases e
       | some l' =>
        rw [hc] at e;cases e;intro c hc2;rcases List.mem_cons.1 hc2 with rfl|hc2
        · exact hw
        · exact YV hX hc c hc2
open Rn
variable {A:Nat→Prop} {B N c g j:Nat} {E G:World→Prop} {K:Act→World→Prop} {L L' M M' p q:List Value} {Q:Exit→Act→World→Prop} {R:Ending→World→Prop} {T t:TypeId} {V:List (Nat×List Value)} {W u w w':World} {a:Act} {b:Bk} {d old sv v:Value} {l:List Int} {n:Int} {o:Oper} {x y:Operand}
structure Ob (t:TypeId) (L:List Value):Prop where
 sz:(Tryz.prog.info? t).map (·.size)=some L.length
 ag:(∃f,Tryz.prog.underlying t=some (.struct f))∨∃n e,Tryz.prog.underlying t=some (.array n e)
 one:∀v∈L,v.oneCell'=true
 ns:∀v∈L,∀t,v≠.string t
theorem Ob.len(h:Ob t L)(k:Ob t M):M.length=L.length:=Option.some.inj (k.sz.symm.trans h.sz)
theorem Jbu{A:Type}{p L q:List A}{v:A}(h:L[j]? = some v):(p++(L++q))[p.length+j]? = some v:=by
 have hj:=(Zg h).1;rw [List.getElem?_append_right (Nat.le_add_right _ _),Nat.add_sub_cancel_left,List.getElem?_append_left hj,h]
section
variable {N:Nat} {A:Nat→Prop} {E:World→Prop} {V:List (Nat×List Value)} {ops:Array Oper} {rest:List Oper} {dst:Option Tmp} {x y:Operand} {t:TypeId} {t2:TypeId} {pos:String} {after:Array Edge} {guard:Option (Nat×Bool)} {a:Act} {w:World} {Q:Exit→Act→World→Prop}
theorem ldO(o:Ob t L)(h:Rn.St N A E V w)(i:Nat){G:Prop}(k:G)(hv:V[i]? = some (g,L):=by rfl)(hx:a.eval x=.pointer (some ⟨g,0,none⟩):=by rfl)(hw:Region.wanted ⟨dst,.load t x,t2,pos,after,guard⟩ (yielded ops a.tmps)=true:=by rfl)(m:G→wpList Tryz.prog ops Q rest (a.put dst (.agg L.toArray)) w:=by intro h;(try simp only [Act.put,List.setIfInBounds_toArray,List.set_cons_succ,List.set_cons_zero]);exact h):wpList Tryz.prog ops Q (⟨dst,.load t x,t2,pos,after,guard⟩::rest) a w:=by
 rcases o.ag with ⟨f,hu⟩|⟨n,e,hu⟩
 · exact Jc hw t x rfl g 0 hx L.toArray _ hu rfl (by rw [List.size_toArray];exact o.sz) (Blk.all (h.blk i g _ hv) rfl) (m k)
 · exact Jc hw t x rfl g 0 hx L.toArray _ hu rfl (by rw [List.size_toArray];exact o.sz) (Blk.all (h.blk i g _ hv) rfl) (m k)
theorem ldP(o:Ob t L)(h:Rn.St N A E V w)(i:Nat)(hm:M=p++(L++q)){G:Prop}(k:G)(hc:p.length=c:=by rfl)(hv:V[i]? = some (g,M):=by rfl)(hx:a.eval x=.pointer (some ⟨g,c,none⟩):=by rfl)(hw:Region.wanted ⟨dst,.load t x,t2,pos,after,guard⟩ (yielded ops a.tmps)=true:=by rfl)(m:G→wpList Tryz.prog ops Q rest (a.put dst (.agg L.toArray)) w:=by intro h;(try simp only [Act.put,List.setIfInBounds_toArray,List.set_cons_succ,List.set_cons_zero]);exact h):wpList Tryz.prog ops Q (⟨dst,.load t x,t2,pos,after,guard⟩::rest) a w:=by
 have hA:∀j (hj:j<L.toArray.size),w.cell? ⟨g,c+j,none⟩=some L.toArray[j]:=fun j hj=>by
  subst hm hc;exact (h.blk i g _ hv).cell (Jbu (by rw [List.getElem?_eq_getElem (by simpa using hj)];simp))
 rcases o.ag with ⟨f,hu⟩|⟨n,e,hu⟩
 · exact Jc hw t x rfl g c hx L.toArray _ hu rfl (by rw [List.size_toArray];exact o.sz) hA (m k)
 · exact Jc hw t x rfl g c hx L.toArray _ hu rfl (by rw [List.size_toArray];exact o.sz) hA (m k)
theorem stO(o:Ob t L)(hl:M.length=L.length)(h:Rn.St N A E V w)(i:Nat)(k:∀w',Rn.St N A E (V.set i (g,L)) w'→G w')(hv:V[i]? = some (g,M):=by rfl)(hx:a.eval x=.pointer (some ⟨g,0,none⟩):=by rfl)(hy:a.eval y=.agg L.toArray:=by rfl)(hw:Region.wanted ⟨dst,.store t x y,t2,pos,after,guard⟩ (yielded ops a.tmps)=true:=by rfl)(m:∀w',G w'→wpList Tryz.prog ops Q rest (a.put dst undef) w':=by intro w' h;(try simp only [Act.put,List.setIfInBounds_toArray,List.set_cons_succ,List.set_cons_zero]);exact h):wpList Tryz.prog ops Q (⟨dst,.store t x y,t2,pos,after,guard⟩::rest) a w :=
 Rn.sw (cs:=L.toArray) h i (by simpa using hl) (by rw [List.size_toArray];exact o.sz) (by simpa using o.one) k hv hx hy hw (hns:=o.ns) (m:=m)
theorem stP(o:Ob t L')(hl:L.length=L'.length)(hq:∀v∈M',∀t,v≠.string t)(h:Rn.St N A E V w)(i:Nat)(hm:M=p++(L++q))(hm':M'=p++(L'++q))(k:∀w',Rn.St N A E (V.set i (g,M')) w'→G w')(hc:p.length=c:=by rfl)(hv:V[i]? = some (g,M):=by rfl)(hx:a.eval x=.pointer (some ⟨g,c,none⟩):=by rfl)(hy:a.eval y=.agg L'.toArray:=by rfl)(hw:Region.wanted ⟨dst,.store t x y,t2,pos,after,guard⟩ (yielded ops a.tmps)=true:=by rfl)(m:∀w',G w'→wpList Tryz.prog ops Q rest (a.put dst undef) w':=by intro w' h;(try simp only [Act.put,List.setIfInBounds_toArray,List.set_cons_succ,List.set_cons_zero]);exact h):wpList Tryz.prog ops Q (⟨dst,.store t x y,t2,pos,after,guard⟩::rest) a w:=by
 subst hm hm' hc;refine ZD (cs:=L'.toArray) (h.blk i g _ hv) (by rw [List.size_toArray];exact o.sz) (by simp;omega) (by simpa using o.one) hx hy hw fun wX hD hO _=>m _ (k _ (h.put i hv hq ?_ hO));have e:(Jt (p++(L++q)) p.length L'.toArray).toList=p++(L'++q):=by
  simp [Jt,←hl]
 rw [e] at hD;exact hD
theorem sc(h:Rn.St N A E V w)(i c':Nat)(hs:∀t,v≠.string t)(k:∀w',Rn.St N A E (V.set i (g,M.set c' v)) w'→G w')(hc:c=c':=by rfl)(hv:V[i]? = some (g,M):=by rfl)(hl:M[c']? = some old:=by rfl)(hx:a.eval x=.pointer (some ⟨g,c,none⟩):=by rfl)(hw:Region.wanted ⟨dst,.store t x y,t2,pos,after,guard⟩ (yielded ops a.tmps)=true:=by rfl)(r:w.cell? ⟨g,c,none⟩=some old→w.frozen? ⟨g,c,none⟩=false→(execOp a.eval ⟨dst,.store t x y,t2,pos,after,guard⟩).run Tryz.prog w=.ok .skip (w.setCell ⟨g,c,none⟩ v):=by intro hq hf;go_simp)(m:∀w',G w'→wpList Tryz.prog ops Q rest (a.put dst undef) w':=by intro w' h;(try simp only [Act.put,List.setIfInBounds_toArray,List.set_cons_succ,List.set_cons_zero]);exact h):wpList Tryz.prog ops Q (⟨dst,.store t x y,t2,pos,after,guard⟩::rest) a w:=by
 subst hc;have hb:=h.blk i g _ hv;refine Xy _ hw (r (hb.cell hl) (hb.frozen c)) (m _ (k _ (h.put i hv (fun u hu=>?_) (hb.set c v) ((Only.refl (fun k=>k=g) w).setCell (p:=⟨g,c,none⟩) (.inl rfl) v))));rcases List.mem_or_eq_of_mem_set hu with hu|rfl
 · exact h.ns i g M hv u hu
 · exact hs
end
theorem stH(ob:Ob t L)(hl:M.length=L.length)(hg:Blk w g M)(h:∀wX,Blk wX g L→Only (fun k=>k=g) w wX→K (a.put o.dst undef) wX)(ho:o.op=.store t x y:=by rfl)(hx:a.eval x=.pointer (some ⟨g,0,none⟩):=by rfl)(hy:a.eval y=.agg L.toArray:=by rfl):o.wp Tryz.prog a w K Q :=
 Jw t x y ho g L.toArray hx hy M hg (by simpa using hl) (by rw [List.size_toArray];exact ob.sz) (by simpa using ob.one) h
theorem Yf{fn:Func}{p q:Tmp}(o:Ob t L)(h:Rn.St N A E V w)(i:Nat)(hv:V[i]? = some (g,L))(hR:R (.returned (.tuple #[.agg L.toArray,v])) w)(hf:fn.results=#[.cell p t,.tmp q]:=by rfl)(hp:a.tmps.getD p undef=.pointer (some ⟨g,0,none⟩):=by rfl)(hq:a.tmps.getD q undef=v:=by rfl)(hd:a.defers=[]:=by rfl):bodyPost Tryz.prog fn R .ret a w:=by
 rcases o.ag with ⟨f,hu⟩|⟨n,e,hu⟩
 · exact bodyPost_ret (v:=.tuple #[.agg L.toArray,v]) (results_cell_tmp hf _ _ g 0 _ _ _ hp hq hu rfl (by rw [List.size_toArray];exact o.sz) (Blk.all (h.blk i g _ hv) rfl)) hd hR
 · exact bodyPost_ret (v:=.tuple #[.agg L.toArray,v]) (results_cell_tmp hf _ _ g 0 _ _ _ hp hq hu rfl (by rw [List.size_toArray];exact o.sz) (Blk.all (h.blk i g _ hv) rfl)) hd hR
theorem St.own{x:Nat}(h:Blk W x L)(hns:∀v∈L,∀t,v≠.string t):Rn.St 0 (fun k=>k<W.heap.size∧k≠x) (Only (fun k=>k=x) W) [(x,L)] W:=by
 have at0:∀(i g:Nat) (M:List Value),[(x,L)][i]? = some (g,M)→i=0∧g=x∧M=L:=fun i g M e=>by
  cases i with
  | zero=>cases e;exact⟨rfl,rfl,rfl⟩
  | succ i=>simp at e
 refine⟨Nat.zero_le _,fun i g M e=>?_,fun i g M e=>Nat.zero_le _,fun i j g M M' e f=>?_,Only.refl _ _,⟨fun u u' _ he hb=>he.trans (Only.of_below hb),fun g _ ha v v' hv hs ho=>?_,fun u hu k hk=>Nat.lt_of_lt_of_le hk.1 hu.size⟩,fun i g M e=>?_,fun i g M e=>?_⟩
 · obtain⟨-,rfl,rfl⟩:=at0 i g M e;exact h
 · rw [(at0 i g M e).1,(at0 j g M' f).1]
 · by_cases hg:g=x
   · subst hg;exact hv.trans ho
   · exact hv.into ho (by omega)
 · obtain⟨-,rfl,-⟩:=at0 i g M e;exact fun hk=>hk.2 rfl
 · obtain⟨-,-,rfl⟩:=at0 i g M e;exact hns
theorem St.via(h:Rn.St N A E V w)(i:Nat)(hi:V[i]? = some (g,L))(hns:∀v∈M,∀t,v≠.string t)(hD:Blk w' g M)(hO:Only (fun k=>k=g) w w'):Rn.St N A E (V.set i (g,M)) w':=h.put i hi hns hD hO
theorem Stays.ints:Stays N (fun k=>l≠[]∧sv.ownBlock=some k) fun u=>IntsAt u sv l :=
 ⟨fun u u' hn he hb=>he.below hb,fun g hg ha v v' hv hs ho=>by
  obtain⟨a,cap,e,hc⟩:=hv
  refine⟨a,cap,e,fun i x hx=>?_⟩
  obtain⟨b,o,ha',hc'⟩:=hc i x hx
  refine⟨b,o,ha',ho.cell (fun hbg=>ha ⟨fun h0=>by rw [h0] at hx;simp at hx,?_⟩) hc'⟩
  have hbg:b=g:=hbg
  rw [e,ha',hbg]
  rfl,fun u hu k ⟨h0,hk⟩=>by
  obtain⟨a,cap,e,hc⟩:=hu
  cases l with
  | nil=>exact absurd rfl h0
  | cons x r =>
   obtain⟨b,o,ha',hc'⟩:=hc 0 x rfl
   rw [e,ha'] at hk
   cases hk
   exact block_lt_of_cell hc'⟩
theorem je(l:List Int):∀v∈u8s l,v.oneCell'=true:=by simpa using Jj l
theorem KD(h:l.length=32):Ob 43 (u8s l):=⟨by rw [List.length_map,h];kernel_rfl,.inr ⟨_,_,Tryz.underlying43⟩,je l,u8s_noStr l⟩
theorem qE(h:l.length=64):Ob 36 (u8s l):=⟨by rw [List.length_map,h];kernel_rfl,.inr ⟨_,_,Tryz.underlying36⟩,je l,u8s_noStr l⟩
def IsSl(v:Value):Prop:=∃a n c,v=.slice a n c
theorem IsSl.one(h:IsSl v):v.oneCell'=true:=by obtain⟨a,n,c,rfl⟩:=h;rfl
theorem IsSl.ns(h:IsSl v):∀t,v≠.string t:=by obtain⟨a,n,c,rfl⟩:=h;exact fun t e=>by cases e
theorem OwnN.sl(h:OwnN w B sv l):IsSl sv:=by obtain⟨a,c,e,-⟩:=h.ints;exact⟨_,_,_,e⟩
theorem IntsAt.sl(h:IntsAt w sv l):IsSl sv:=by obtain⟨a,c,e,-⟩:=h;exact⟨_,_,_,e⟩
theorem Jm:IsSl (.slice none 0 0):=⟨_,_,_,rfl⟩
def chC(sv:Value)(l:List Int):List Value:=sv::u8s l
theorem KE(h:IsSl sv)(hl:l.length=32):Ob 45 (chC sv l):=⟨by rw [chC,List.length_cons,List.length_map,hl];kernel_rfl,.inl ⟨_,Tryz.underlying45⟩,fun v hv=>by
 rcases List.mem_cons.1 hv with rfl|hv
 · exact h.one
 · exact je l v hv,fun v hv=>by
 rcases List.mem_cons.1 hv with rfl|hv
 · exact h.ns
 · exact u8s_noStr l v hv⟩
theorem jf(sv:Value)(l:List Int):chC sv l=[sv]++(u8s l++[]):=by simp [chC]
def chZ:List Value:=chC (.slice none 0 0) (zeros 32)
theorem chz_ob:Ob 45 chZ:=KE Jm rfl
theorem KA:(Tryz.prog.info? 45).bind (·.zero)=some (.agg chZ.toArray):=by kernel_rfl
theorem X8(w:World):(Instr.build 45 #[]).run Tryz.prog w=.ok (.agg chZ.toArray) w:=run_build (P:=Tryz.prog) w 45 _ _ (by kernel_rfl)
theorem Jv(h:b.Wf)(hs:IsSl sv):Ob 82 (b.cells sv):=⟨by rw [Bk.cells_length h];kernel_rfl,.inl ⟨_,Tryz.underlying82⟩,by simpa [Bk.arr] using Bk.arr_one hs.one,fun v hv t e=>by
 subst e
 simp only [Bk.cells,List.mem_cons,List.mem_append,List.mem_map] at hv
 rcases hv with h|h|⟨z,_,h⟩|h|h|h|⟨z,_,h⟩ <;> first|exact hs.ns t h.symm|cases h⟩
theorem Je(g:Pl.Gm):Ob 23 [.int .i64 g.p,.int .i64 g.s,.int .i64 g.l,.int .i64 g.f]:=⟨by kernel_rfl,.inl ⟨_,Tryz.underlying23⟩,fun v hv=>by simp at hv;rcases hv with rfl|rfl|rfl|rfl <;> rfl,fun v hv t e=>by subst e;simp at hv⟩
theorem Kj(o:Ob t L)(h:Blk u g L)(ev:Operand→Value)(op:Oper)(x:Operand)(ho:op.op=.load t x)(hx:ev x=.pointer (some ⟨g,0,none⟩)):(execOp ev op).run Tryz.prog u=.ok (.value (.agg L.toArray)) u:=by
 rcases o.ag with ⟨f,hu⟩|⟨n,e,hu⟩
 · exact exec_load_at u ev op t x ho g 0 hx L.toArray _ hu rfl (by rw [List.size_toArray];exact o.sz) (Blk.all h rfl)
 · exact exec_load_at u ev op t x ho g 0 hx L.toArray _ hu rfl (by rw [List.size_toArray];exact o.sz) (Blk.all h rfl)
theorem new_err(n:Int)(hn:(n == 0)=false)(s:ByteArray)(w:World):Calls Tryz.prog 56 #[.int .i64 n,.string s] w fun e w'=>∃T d t ts,e=.returned (.iface T d)∧Chain w' n (t::ts) (.iface T d)∧Below w.heap.size w w' :=
 (QM n hn s w).mono fun e w' ⟨v,h1,⟨T,d,t,ts,h2,h3⟩,h4⟩=>⟨T,d,t,ts,by rw [h1,h2],h3,h4⟩
theorem wrap_err{t:ByteArray}{ts:List ByteArray}(s:ByteArray)(w:World)(h:Chain w n (t::ts) (.iface T d)):Calls Tryz.prog 59 #[.iface T d,.string s] w fun e w'=>∃T d t ts,e=.returned (.iface T d)∧Chain w' n (t::ts) (.iface T d)∧Below w.heap.size w w' :=
 (Xj n (.iface T d) s w ⟨T,d,t,ts,rfl,h⟩).mono fun e w' ⟨v,h1,⟨T,d,t,ts,h2,h3⟩,h4⟩=>⟨T,d,t,ts,by rw [h1,h2],h3,h4⟩
def qF(n:Int)(L:List Value)(e:Ending)(w':World):Prop:=∃T d t ts,e=.returned (.tuple #[.agg L.toArray,.iface T d])∧Chain w' n (t::ts) (.iface T d)
theorem Bytes.sl(h:BytesAt w sv l):IsSl sv:=by obtain⟨a,c,e,-⟩:=h;exact⟨_,_,_,e⟩
theorem Yg{y:List Int}(h:Sc y):(Qm y).Wf:=by
 unfold Qm;split
 · exact readOf_wf h
 · exact none_wf
theorem Fresh.up(h:Fresh B sv)(hn:N≤B):Fresh N sv:=fun b o n c e=>Nat.le_trans hn (h b o n c e)
theorem Q8(n:Int)(h0:-9223372036854775808≤n)(h1:n≤9223372036854775807)(w:World)(hv:Vars w):Calls Tryz.prog 60 #[.int .i64 n] w fun e w'=>∃s:ByteArray,e=.returned (.string s)∧s.size≤100∧Below w.heap.size w w':=by
 refine (Tryz.strconv_Itoa n h0 h1 w hv.2.1).mono ?_;rintro e w' ⟨rfl,q,os,rfl⟩;refine⟨_,rfl,?_,qd w q os⟩;have:=Lib.itoa_length_le n (by omega) (by omega);simp only [ByteArray.size,List.size_toArray];omega
variable {F:Nat→Prop} {W0:World} {X:List (List Int)} {b:Nat} {p:Int} {sv:Value}
def Jjj(B:Nat)(q:Option Bk)(e:Ending)(w':World):Prop:=match q with
 | some b=>∃sv,e=.returned (.tuple #[.agg (b.cells sv).toArray,.nilIface])∧b.Wf∧BytesAt w' sv b.bytes∧Fresh B sv
 | none=>qF 13 (Bk.none.cells (.slice none 0 0)) e w'
theorem Jbv{g:Pl.Gm}(h:¬((4≤p∧p≤4+g.s*g.l-1)∧JT (X.getD p.toNat [])=true)):bAt X g p=none:=if_neg h
theorem Jfb{g:Pl.Gm}(h:(4≤p∧p≤4+g.s*g.l-1)∧JT (X.getD p.toNat [])=true):bAt X g p=some (Qm (X.getD p.toNat [])):=if_pos h
theorem J0e{g:Pl.Gm}(hg:g.Ok)(p:Int)(hp0:-9223372036854775808≤p)(hp1:p≤9223372036854775807)(w:World)(hv:Vars w){d:De.D}(h:De.Dv W0 w b F d)(hLn:d.L.length≤1000000)(hX:Img d X)(ht:4+g.s*g.l≤(X.length:Int)):Calls Tryz.prog 89 #[.pointer (some ⟨b,0,none⟩),g.v,.int .i64 p] w fun e w'=>Jjj w.heap.size (bAt X g p) e w'∧Below w.heap.size w w':=by
 have H:=Rn.St.start (Stays.below w) Zq;have HV:=Zh hv;have HD:=Zh h;have HLN:=Zh hLn;have HGO:=Zh hg;have HP0:=Zh hp0;have HP1:=Zh hp1;have HBK:Hid (4≤p∧p≤4+g.s*g.l-1→∃y,X.getD p.toNat []=y∧d.read p=(u8s y).toArray∧Sc y):=Zh fun hp=>by
  have hl:p.toNat<X.length:=by omega
  have:=(hX.read (i:=p.toNat) (y:=X[p.toNat]) (List.getElem?_eq_getElem hl)).1;rw [Int.toNat_of_nonneg (by omega)] at this;exact⟨_,by rw [List.getD_eq_getElem?_getD,List.getElem?_eq_getElem hl];rfl,this,hX.sc _ (List.getElem_mem hl)⟩
 clear hg h hLn hX ht hv hp0 hp1;go_enter Tryz.func89,Tryz.ntmps89;go_upto_region 0 with fail;refine Zl ?_;refine bx H ?_ (hns:=(Je g).ns);clear H;intro g1 w1 H;refine al Fo.zero82b H ?_ (hns:=(Jv none_wf Jm).ns);clear H;intro g2 w2 H;refine tk (Value.nilIface) ?_;refine Zn ?_
 by_cases hp:4≤p∧p≤4+g.s*g.l-1
 · obtain⟨y,hy,hr,hs⟩:=HBK.out hp;have HP:=Zh hp;have HR:=Zh hr;have HSC:=Zh hs;have HY:=Zh hy;clear hp hy hr hs HBK;go_upto_region 1 with fail;refine Zl ?_;refine ldO (Je g) H 0 ?_;refine tk (.int .i64 p) ?_;refine cl (Rn.of_in g HGO.out p HP.out _) H ?_;clear H;intro w3 H;refine tk (.tuple #[.int .i64 ((p-4)/g.l),.int .i64 ((p-4)%g.l),.bool true]) ?_;refine tk (.int .i64 ((p-4)/g.l)) ?_;refine tk (.int .i64 ((p-4)%g.l)) ?_;refine tk (.bool true) ?_;refine tk (.int .i64 ((p-4)/g.l)) ?_;refine tk (.int .i64 ((p-4)%g.l)) ?_;refine tk (.bool true) ?_;go_upto_region 2 with fail;refine Zl ?_;refine tk (.bool true) ?_;refine tk (.bool false) ?_;go_upto_region 4 with fail;refine Zl ?_;refine tk (.pointer (some ⟨b,0,none⟩)) ?_;refine tk (.int .i64 p) ?_;refine cl (by have:=De.kx (HD.below H.ex) HLN.out p;rw [HR.out] at this;exact this) H ?_;clear H;intro w4 H;refine tk (.tuple #[.agg (u8s y).toArray,.int .i64 (d.readE p)]) ?_;refine tk (.agg (u8s y).toArray) ?_;refine tk (.int .i64 (d.readE p)) ?_;refine al Kd H ?_ (hns:=(qE (J1 64)).ns);clear H;intro g5 w5 H;refine stO (qE HSC.length) (Ob.len (qE HSC.length) (qE (J1 64))) H 2 ?_;clear H;intro w5 H;refine tk (.int .i64 (d.readE p)) ?_;go_upto_region 5 with fail;refine Zl ?_;refine ldO (qE HSC.length) H 2 ?_;refine J0 rfl fun K hK=>?_;go_simp;refine (kX y HSC.out _).mono ?_;rintro e w6 ⟨sv,rfl,hy,hb,hf⟩;have HFR:=Zh (Fresh.up hf H.sz);have HSO:=Zh (Bytes.sl hy);replace H:=H.slice hb hy hf;clear hy hb hf;refine hK _ _ (nm ?_);clear hK K;refine tk (.tuple #[.agg ((Qm y).arr sv),.int .u32 (ZN y),.int .i64 (Ym y)]) ?_;refine tk (.agg ((Qm y).arr sv)) ?_;refine tk (.int .u32 (ZN y)) ?_;refine tk (.int .i64 (Ym y)) ?_;refine al Fo.zero82b H ?_ (hns:=(Jv none_wf Jm).ns);clear H;intro g7 w7 H;refine stO (Jv (Yg HSC.out) HSO.out) (Ob.len (Jv (Yg HSC.out) HSO.out) (Jv none_wf Jm)) H 3 ?_;clear H;intro w7 H;refine tk (.int .u32 (ZN y)) ?_;refine tk (.int .i64 (Ym y)) ?_;refine Zn ?_;cases hb:JT y
   · have HE:Hid (Ym y=11):=Zh (J41 hb).2.2;have HB:=Zh hb;clear hb;go_upto_region 6 with fail;refine Zl ?_;refine tk (.int .i64 (Ym y)) ?_;refine tk (.bool true) ?_ (hr:=by go_simp;simp [HE.out]);go_upto_region 7 with fail;refine Zl ?_;refine Ji (ku _) rfl ?_;refine nm ?_;refine tk (.int .i64 p) ?_;refine J0 rfl fun K hK=>?_;go_simp;refine (Q8 p HP0.out HP1.out _ (HV.below Zy H.ex.1)).mono ?_;rintro e w8 ⟨sI,rfl,hsI,hb⟩;replace H:=H.call hb;clear hb;refine hK _ _ (nm ?_);clear hK K;refine tk (.string (⟨#[110,111,32,98,108,111,99,107,58,32,115,101,99,116,111,114,32]⟩++sI)) ?_ (hr:=by go_simp;omega);refine J0 rfl fun K hK=>?_;go_simp;refine (new_err 13 rfl _ _).mono ?_;rintro e w9 ⟨T9,d9,t9,s9,rfl,hc,hb⟩;replace H:=(H.call hb).chain hc;clear hc hb;refine hK _ _ (nm ?_);clear hK K;refine stO (Jv none_wf Jm) (Ob.len (Jv none_wf Jm) (Jv none_wf Jm)) H 1 ?_;clear H;intro w9 H;refine tk (.iface T9 d9) ?_;go_wp2_with fail
     refine Yf (Jv none_wf Jm) H 1 rfl ⟨?_,H.ex.1.1⟩;rw [Jbv (fun h=>by rw [HY.out,HB.out] at h;exact absurd h.2 (by decide))];exact⟨_,_,_,_,rfl,H.ex.2⟩
   · have HE:Hid (Ym y=0):=Zh (q8 hb).2.2;have HB:=Zh hb;clear hb;go_upto_region 6 with fail;refine Zl ?_;refine tk (.int .i64 (Ym y)) ?_;refine tk (.bool false) ?_ (hr:=by go_simp;simp [HE.out]);go_upto_region 8 with fail;refine Zl ?_;refine ldO (Jv (Yg HSC.out) HSO.out) H 3 ?_;refine stO (Jv (Yg HSC.out) HSO.out) (Ob.len (Jv (Yg HSC.out) HSO.out) (Jv none_wf Jm)) H 1 ?_;clear H;intro w7 H;refine tk (Value.nilIface) ?_;go_wp2_with fail
     refine Yf (Jv (Yg HSC.out) HSO.out) H 1 rfl ⟨?_,H.ex.1⟩;rw [Jfb ⟨HP.out,by rw [HY.out];exact HB.out⟩,HY.out];exact⟨sv,rfl,Yg HSC.out,H.ex.2,HFR.out⟩
 · have HP:=Zh hp;clear hp HBK;go_upto_region 1 with fail;refine Zl ?_;refine ldO (Je g) H 0 ?_;refine tk (.int .i64 p) ?_;refine cl (Rn.of_out g HGO.out p HP.out _) H ?_;clear H;intro w3 H;refine tk (.tuple #[.int .i64 0,.int .i64 0,.bool false]) ?_;refine tk (.int .i64 0) ?_;refine tk (.int .i64 0) ?_;refine tk (.bool false) ?_;refine tk (.int .i64 0) ?_;refine tk (.int .i64 0) ?_;refine tk (.bool false) ?_;go_upto_region 2 with fail;refine Zl ?_;refine tk (.bool false) ?_;refine tk (.bool true) ?_;go_upto_region 3 with fail;refine Zl ?_;refine Ji (ku _) rfl ?_;refine nm ?_;refine tk (.int .i64 p) ?_;refine J0 rfl fun K hK=>?_;go_simp;refine (Q8 p HP0.out HP1.out _ (HV.below Zy H.ex)).mono ?_;rintro e w4 ⟨sI,rfl,hsI,hb⟩;replace H:=H.call hb;clear hb;refine hK _ _ (nm ?_);clear hK K;refine tk (.string (⟨#[105,110,32,110,111,32,115,101,103,109,101,110,116,58,32,115,101,99,116,111,114,32]⟩++sI)) ?_ (hr:=by go_simp;omega);refine J0 rfl fun K hK=>?_;go_simp;refine (new_err 13 rfl _ _).mono ?_;rintro e w5 ⟨T5,d5,t5,s5,rfl,hc,hb⟩;replace H:=(H.call hb).chain hc;clear hc hb;refine hK _ _ (nm ?_);clear hK K;refine stO (Jv none_wf Jm) (Ob.len (Jv none_wf Jm) (Jv none_wf Jm)) H 1 ?_;clear H;intro w5 H;refine tk (.iface T5 d5) ?_;go_wp2_with fail
   refine Yf (Jv none_wf Jm) H 1 rfl ⟨?_,H.ex.1⟩;rw [Jbv (fun h=>by exact HP.out h.1)];exact⟨_,_,_,_,rfl,H.ex.2⟩
theorem J33{b:Bk}(hb:b.Wf)(hs:IsSl sv)(w:World):Calls Tryz.prog 90 #[.agg (b.cells sv).toArray] w (Zr w (.int .i64 (qC b))):=by
 have H:=Rn.St.start (Stays.below w) Zq;have HW:=Zh hb;have HSO:=Zh hs;have H36:Hid ((b.cells sv)[36]? = some (.int .i64 b.prev)):=Zh (Bk.at36 hb sv);clear hb hs;go_enter Tryz.func90,Tryz.ntmps90;go_upto_region 0 with fail;refine Zl ?_;refine bx H ?_ (hns:=(Jv HW.out HSO.out).ns);clear H;intro g1 w1 H;refine tk (.int .i64 0) ?_;refine Zn ?_
 by_cases hk:b.kind=1
 · have HK:=Zh hk;clear hk;go_upto_region 1 with fail;refine Zl ?_;refine tk (.pointer (some ⟨g1,0,none⟩)) ?_;refine lc H 0 (0) ?_;refine tk (.bool true) ?_ (hr:=by go_simp;simp [HK.out]);go_upto_region 2 with fail;refine Zl ?_;refine tk (.int .i64 1) ?_;go_wp2_with fail
   go_ret;exact⟨by unfold qC;rw [if_pos HK.out];rfl,H.ex⟩
 · have HK:=Zh hk;clear hk;go_upto_region 1 with fail;refine Zl ?_;refine tk (.pointer (some ⟨g1,0,none⟩)) ?_;refine lc H 0 (0) ?_;refine tk (.bool false) ?_ (hr:=by go_simp;simp [HK.out]);go_upto_region 3 with fail;refine Zl ?_;refine tk (.pointer (some ⟨g1,36,none⟩)) ?_;refine lc H 0 (36) ?_ (hl:=H36.out);refine tk (.int .i64 b.prev) ?_;go_wp2_with fail
   go_ret;exact⟨by unfold qC;rw [if_neg HK.out];rfl,H.ex⟩
variable {B C c g i j q:Nat} {b:Bk} {bv sv tv:Value} {l:List (Bk×Value)} {m:List Int} {row:Option Nat} {w w':World}
theorem J0f(h:Below w.heap.size w w'):w.grownBy w' none:=⟨h.os,h.tape,h.output,h.size,fun k hk _=>h.block k hk⟩
theorem Yh(h:Only (fun k=>k=g) w w'):w.grownBy w' (some g):=⟨h.os,h.tape,h.output,h.size,fun k hk hne=>h.block k hk fun e=>hne (by rw [e])⟩
def Apr(row:Option Nat)(sv:Value):Prop:=∀k,sv.ownBlock=some k→row≠some k
theorem Apr.none(sv:Value):Apr Option.none sv:=fun k _ e=>by cases e
theorem OwnN.grow{l:List Int}(h:OwnN w B sv l)(hg:w.grownBy w' row)(hn:Apr row sv):OwnN w' B sv l:=by
 refine⟨h.1,?_⟩;rcases h.2 with hz|⟨g,cap,cur,e,hB,hgg,r⟩
 · exact .inl hz
 · exact .inr ⟨g,cap,cur,e,hB,(hg.block g (Array.getElem?_eq_some_iff.1 hgg).1 fun e2=>hn g (by rw [e];rfl) e2.symm).trans hgg,r⟩
theorem BytesAt.grow{l:List Int}(h:BytesAt w sv l)(hg:w.grownBy w' row)(hn:l≠[]→Apr row sv):BytesAt w' sv l:=by
 obtain⟨a,cap,e,hc⟩:=h;refine⟨a,cap,e,fun i x hx=>?_⟩;obtain⟨b,o,ha',hx2⟩:=hc i x hx;refine⟨b,o,ha',?_⟩;rw [←hx2];refine World.cell?_of_block (hg.block b (block_lt_of_cell hx2) fun e2=>hn (fun h0=>by rw [h0] at hx;simp at hx) b (by rw [e,ha'];rfl) e2.symm)
theorem J4r{l:List Int}(h:OwnN w B sv l)(hB:B≤w.heap.size)(k:IntsAt w tv m)(hlen:l.length+m.length≤1000000)(ty:TypeId) :
 ∃sv' w',(Builtin.append_ #[41,41] ty #[sv,tv]).run Tryz.prog w=.ok sv' w'∧OwnN w' B sv' (l++m)∧w.grownBy w' sv.ownBlock∧(sv'.ownBlock=sv.ownBlock∨sv'.ownBlock=some w.heap.size):=by
 obtain⟨i,hi,hz,hs,hby⟩:=J5d;cases m with
 | nil =>
  have hsl:∃a c,sv=.slice a l.length c∧l.length≤c:=by
   rcases h.2 with ⟨e,h0⟩|⟨g,cap,cur,e,_,_,hn,_⟩
   · exact⟨none,0,by rw [e,h0],by omega⟩
   · exact⟨_,cap,e,hn⟩
  obtain⟨a,c,rfl,hle⟩:=hsl;obtain⟨ta,tc,rfl,_⟩:=k;refine⟨_,w,run_append_nothing w 41 41 ty 3 i Tryz.underlying41 hi a l.length c hle _ ⟨.inl ⟨3,Tryz.underlying41⟩,fun _=>by rfl,?_,?_,by simp,fun u hu=>by cases hu⟩,by rw [List.append_nil];exact h,⟨rfl,rfl,rfl,Nat.le_refl _,fun _ _ _=>rfl⟩,.inl rfl⟩
  · cases ta <;> simp [Builtin.firstCells,hs,loadCells,loadCellsFrom]
  · cases ta <;> simp [Builtin.firstCells,hs,loadCells,loadCellsFrom]
 | cons x m =>
  obtain⟨b,o,c,rfl,hc⟩:=k.has (by simp);obtain⟨v',w',hr,h2,h3,_,h5⟩:=run_append_own_at (P:=Tryz.prog) (w:=w) B 41 ty 3 i (.int .i64 0) 1 8 Tryz.underlying41 hi hz hs hby rfl (by decide) sv l.length (Jq l) h ⟨b,o,none⟩ (x::m).length c (Jq (x::m)) (by simp) (fun j u hu=>by
   rw [List.getElem?_map] at hu
   cases hz:(x::m)[j]? with
   | none=>simp [hz] at hu
   | some z =>
    simp [hz] at hu
    subst hu
    rw [show (⟨b,o,none⟩:Addr).add j=⟨b,o+j,none⟩ by unfold Addr.add;split <;> simp_all]
    exact hc j z hz) (fun u hu=>by obtain⟨z,_,rfl⟩:=List.mem_map.1 hu;rfl) (by simp only [maxLen];omega) (by omega) hB
  refine⟨v',w',hr,?_,h3,h5⟩;unfold OwnN;rw [List.length_append,show Jq (l++x::m)=Jq l++Jq (x::m) by simp];exact h2
theorem J0g(h:∀x∈l,x.1.Wf)(hj:j<45):(Fo.QX l)[i*45+j]? = (l[i]?).bind fun x=>(x.1.cells x.2)[j]? := by
 induction l generalizing i with
 | nil=>simp [Fo.QX]
 | cons x r ih =>
  have hl:=x.1.cells_length (h x (by simp)) x.2;have ih:=fun {i}=>ih (i:=i) fun y hy=>h y (List.mem_cons_of_mem _ hy);simp only [Fo.QX,List.flatMap_cons] at ih ⊢;cases i with
  | zero =>
   rw [Nat.zero_mul,Nat.zero_add,List.getElem?_append_left (by omega)];rfl
  | succ i =>
   rw [List.getElem?_append_right (by omega),hl,show (i+1)*45+j-45=i*45+j by omega,ih];rfl
theorem info82a:(Tryz.prog.info? 82).map (fun i=>(i.size,i.bytes))=some (45,152):=by kernel_rfl
theorem inf82:∃i,Tryz.prog.info? 82=some i∧i.zero=some (.agg (Bk.none.arr (.slice none 0 0)))∧i.size=45∧i.bytes=152:=by
 have h1:=info82a;have h2:=Fo.zero82b;cases hq:Tryz.prog.info? 82 with
 | none=>simp [hq] at h1
 | some i=>simp [hq] at h1 h2;exact⟨i,rfl,h2,h1⟩
theorem Jbw(w:World)(b:Bk)(bv:Value)(hb:b.Wf):(Instr.buildSlice 95 1 #[(0,.agg (b.cells bv).toArray)]).run Tryz.prog w=.ok (.slice (some ⟨w.heap.size,0,none⟩) 1 1) (w.alloc (.cells (b.cells bv).toArray 82)):=by
 obtain⟨i,hi,hz,hs,-⟩:=inf82;have hl:(b.cells bv).toArray.size=45:=by rw [List.size_toArray];exact b.cells_length hb bv
 exact De.Xn w 95 82 i _ _ Tryz.underlying95 hi hz (by omega) (by omega) (by omega)
theorem Jbx(w:World)(v:Int):(Instr.buildSlice 41 1 #[(0,.int .i64 v)]).run Tryz.prog w=.ok (.slice (some ⟨w.heap.size,0,none⟩) 1 1) (w.alloc (.cells #[.int .i64 v] 3)):=by
 obtain⟨i,hi,hz,hs,-⟩:=J5d;refine Go.run_buildSlice (P:=Tryz.prog) w 41 3 1 _ #[.int .i64 v] i _ Tryz.underlying41 hi hz (by rw [hs];omega) (by rw [hs];omega) ?_;rw [hs]
 first|kernel_rfl|simp [Instr.fill,Value.cells]
structure BkR (w:World) (B:Nat) (sv:Value) (l:List (Bk×Value)):Prop where
 row:w.ownsRow B 82 45 sv l.length (Fo.QX l)
 all:∀x∈l,x.1.Wf∧IsSl x.2∧BytesAt w x.2 x.1.bytes∧(x.1.bytes≠[]→Apr sv.ownBlock x.2)
theorem BkR.nil(w:World)(B:Nat):BkR w B (.slice none 0 0) []:=⟨World.ownsRow_nil w B 82 45,fun x hx=>by cases hx⟩
theorem BkR.lt(h:BkR w B sv l):∀k,sv.ownBlock=some k→B≤k∧k<w.heap.size:=World.ownsRow.lt h.row
theorem BkR.grow(h:BkR w B sv l)(hg:w.grownBy w' row)(hn:Apr row sv)(hx:∀x∈l,x.1.bytes≠[]→Apr row x.2):BkR w' B sv l:=by
 refine⟨⟨h.row.1,?_⟩,fun x hm=>?_⟩
 · rcases h.row.2 with hz|⟨g,cap,cur,e,hB,hgg,r⟩
   · exact .inl hz
   · exact .inr ⟨g,cap,cur,e,hB,(hg.block g (Array.getElem?_eq_some_iff.1 hgg).1 fun e2=>hn g (by rw [e];rfl) e2.symm).trans hgg,r⟩
 · obtain⟨h1,h2,h3,h4⟩:=h.all x hm;exact⟨h1,h2,BytesAt.grow h3 hg (hx x hm),h4⟩
theorem BkR.blks(h:BkR w B sv l):Fo.BlksAt w sv l:=by
 have hr:=h.row;rcases hr.2 with ⟨rfl,h0⟩|⟨g,cap,cur,rfl,hb,hg,hn,hm,hs,ht⟩
 · have:l=[]:=List.eq_nil_of_length_eq_zero h0;subst this;exact Fo.BlksAt.nil _ _ _
 · refine⟨_,cap,rfl,fun i x hx=>?_⟩;obtain⟨h1,-,h2,-⟩:=h.all x (List.mem_of_getElem? hx);refine⟨h1,h2,g,0,rfl,fun j hj=>?_⟩;have hi:=(Zg hx).1;rw [Bk.arr_size h1] at hj;rw [Nat.zero_add,World.ownsRow.cellAt hr (i*45+j) (by omega),J0g (fun y hy=>(h.all y hy).1) hj,hx];show (x.1.cells x.2)[j]? = _;rw [List.getElem?_eq_getElem (by rw [Bk.cells_length h1];exact hj)];rfl
theorem Jfc(h:BkR w B sv l)(hB:B≤w.heap.size)(hb:b.Wf)(hs:IsSl bv)(hq:Blk w q (b.cells bv))(hy:BytesAt w bv b.bytes)(hn:b.bytes≠[]→Apr sv.ownBlock bv)(hlen:l.length≤100)(ty:TypeId) :
 ∃sv' w',(Builtin.append_ #[95,95] ty #[sv,.slice (some ⟨q,0,none⟩) 1 c]).run Tryz.prog w=.ok sv' w'∧BkR w' B sv' (l++[(b,bv)])∧w.grownBy w' sv.ownBlock∧(sv'.ownBlock=sv.ownBlock∨sv'.ownBlock=some w.heap.size):=by
 obtain⟨i,hi,hz,hs2,hby⟩:=inf82;have hl:=b.cells_length hb bv;obtain⟨v',w',hr,h2,h3,_,h5⟩:=run_append_own_at (P:=Tryz.prog) (w:=w) B 95 ty 82 i (.agg (Bk.none.arr (.slice none 0 0))) 45 152 Tryz.underlying95 hi hz hs2 hby (Bk.arr_size none_wf _) (by decide) sv l.length (Fo.QX l) h.row ⟨q,0,none⟩ 1 c (b.cells bv) (by omega) (fun j u hu=>by
  rw [show (⟨q,0,none⟩:Addr).add j=⟨q,j,none⟩ by unfold Addr.add;split <;> simp_all]
  exact hq.cell hu) (fun v hv=>Bk.arr_one hs.one v (by simpa [Bk.arr] using hv)) (by simp only [maxLen];omega) (by omega) hB
 have hap:∀(x:Bk×Value),BytesAt w x.2 x.1.bytes→(x.1.bytes≠[]→Apr sv.ownBlock x.2)→(x.1.bytes≠[]→Apr v'.ownBlock x.2):=fun x hx k h0=>by
  rcases h5 with e|e
  · rw [e];exact k h0
  · rw [e];intro n hn2 e2;cases e2;obtain⟨b0,o0,c0,e3,-⟩:=hx.has (List.length_pos_iff.2 h0);rw [e3] at hn2;have:=hx.lt (List.length_pos_iff.2 h0) e3;cases hn2;exact absurd this (Nat.lt_irrefl _)
 refine⟨v',w',hr,⟨?_,fun x hm=>?_⟩,h3,h5⟩
 · rw [List.length_append,List.length_singleton,show Fo.QX (l++[(b,bv)])=Fo.QX l++b.cells bv by simp [Fo.QX]];exact h2
 · rcases List.mem_append.1 hm with hm|hm
   · obtain⟨q1,q2,q3,q4⟩:=h.all x hm;exact⟨q1,q2,BytesAt.grow q3 h3 q4,hap x q3 q4⟩
   · obtain rfl:=List.mem_singleton.1 hm;exact⟨hb,hs,BytesAt.grow hy h3 hn,hap (b,bv) hy hn⟩
theorem J0h{l:List Int}{m:List (Bk×Value)}(h:OwnN w B sv l)(k:BkR w C tv m):Apr sv.ownBlock tv∧Apr tv.ownBlock sv:=by
 have h1:=X4 h;have h2:=X4 k.row;have hne:∀i,sv.ownBlock=some i→tv.ownBlock=some i→False:=fun i a b=>by
  obtain⟨c1,f1,e1⟩:=h1 i a;obtain⟨c2,f2,e2⟩:=h2 i b;rw [e1] at e2;cases e2
 exact⟨fun i a b=>hne i b a,fun i a b=>hne i a b⟩
section
variable {P:Program} {o:Oper} {a:Act} {w:World} {K:Act→World→Prop} {Q:Exit→Act→World→Prop}
theorem J34(x:Operand)(v:Int)(d:Tmp)(hd:o.dst=some d)(ho:o.op=.buildSlice 41 1 #[(0,x)])(hx:a.eval x=.int .i64 v)(hh:∀g w',w.heap.size=g→Blk w' g [.int .i64 v]→Below w.heap.size w w'→g<w'.heap.size→K (a.put (some d) (.slice (some ⟨g,0,none⟩) 1 1)) w'):o.wp Tryz.prog a w K Q:=by
 have hr:(Instr.buildSlice 41 1 #[(0,.int .i64 v)]).run Tryz.prog w=.ok (.slice (some ⟨w.heap.size,0,none⟩) 1 1) (w.alloc (.cells #[.int .i64 v] 3)):=Jbx w v;exact Jf (some d) hd _ _ (JS _ _ a.eval _ 41 1 _ ho #[(0,.int .i64 v)] (by simp [hx]) _ hr) (hh _ _ rfl (Blk.new w _ _) (Zq.alloc Zy _) (by simp))
theorem J35(hb:b.Wf)(x:Operand)(d:Tmp)(hd:o.dst=some d)(ho:o.op=.buildSlice 95 1 #[(0,x)])(hx:a.eval x=.agg (b.cells bv).toArray)(hh:∀g w',w.heap.size=g→Blk w' g (b.cells bv)→Below w.heap.size w w'→g<w'.heap.size→K (a.put (some d) (.slice (some ⟨g,0,none⟩) 1 1)) w'):o.wp Tryz.prog a w K Q :=
 Jf (some d) hd _ _ (JS _ _ a.eval _ 95 1 _ ho #[(0,.agg (b.cells bv).toArray)] (by simp [hx]) _ (Jbw w b bv hb)) (hh _ _ rfl (Blk.new w _ _) (Zq.alloc Zy _) (by simp))
end
end Go.Proofs.YtdbfmikeaoaebaaGreatDoor
