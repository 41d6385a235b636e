/- Steps. -/
import Derived.Test.YtdbfmikeaoaebaaGreatDoorMaq
import Derived.BigQuiet
import Derived.Deep.AppendLies
import Derived.Deep.Cut
import Derived.Deep.CutRange
import Derived.Deep.DeepFit
import Derived.Deep.DeepMust
import Derived.Deep.LoopGhost
import Derived.Deep.QuietTactic
import Derived.Deep.Upon
import Derived.Laws.CopyRow
import Derived.Laws.Rows
import Derived.Laws.StructEq
import Derived.Lib.AppendZeros
import Derived.Lib.EndianBits
import Derived.Lib.Hide
import Derived.OrdersHeld
import Derived.RegionTactic
import Derived.WalkKit
import Derived.WalkLawsBesides
import Derived.WalkSpells
set_option linter.unusedSimpArgs false
set_option linter.unusedVariables false
set_option maxRecDepth 100000
set_option maxHeartbeats 4000000
namespace Go.Proofs.YtdbfmikeaoaebaaGreatDoor
open Go.RowKit
variable {cap i j k m n:Nat} {l:List Int} {w:World}
namespace Mp
open Go.RowKit Pl
open Go.RowKit
def Fits(off:Int)(l:List Int):Prop:=0≤off∧0<l.length∧off+l.length≤32
instance (off:Int) (l:List Int):Decidable (Fits off l):=by unfold Fits; infer_instance
open Go.RowKit
open Go.RowKit
open Go.RowKit
open Go.RowKit
open Go.RowKit
instance (g:Gm):Decidable g.Ok:=by unfold Gm.Ok; infer_instance
theorem gbox_below(g:Gm)(w:World):Below w.heap.size w (g.box w):=(Below.refl _ _).alloc (Nat.le_refl _) _
open Go.RowKit
theorem wrap_err(T:TypeId)(d:Value)(t:ByteArray)(ts:List ByteArray)(s:ByteArray)(w:World)(h:Chain w 1 (t::ts) (.iface T d)):Calls Tryz.prog 59 #[.iface T d,.string s] w fun e w'=>∃T d t ts,e=.returned (.iface T d)∧Chain w' 1 (t::ts) (.iface T d)∧Below w.heap.size w w' :=
 (YI _ 1 t ts s w h).mono fun e w' ⟨v,h1,h2,h3⟩=>by
  obtain⟨T,d,rfl⟩:=h2.shape;exact⟨T,d,_,_,h1,h2,h3⟩
theorem new_err(s:ByteArray)(w:World):Calls Tryz.prog 56 #[.int .i64 1,.string s] w fun e w'=>∃T d t ts,e=.returned (.iface T d)∧Chain w' 1 (t::ts) (.iface T d)∧Below w.heap.size w w' :=
 (Qq 1 s w rfl).mono fun e w' ⟨v,h1,h2,h3⟩=>by
  obtain⟨T,d,rfl⟩:=h2.shape;exact⟨T,d,_,_,h1,h2,h3⟩
theorem zf(k:Nat)(hk:k<64)(w:World):Calls Tryz.prog 150 #[.int .i64 k] w fun e w'=>∃s:ByteArray,e=.returned (.string s)∧s.size≤100∧w=w':=by
 by_cases h:k<10
 · have h1:(k:Int)<10:=by omega
   go_enter Tryz.func150,Tryz.ntmps150
   go_wp2_with fail
   go_ret;exact⟨_,rfl,by simp [ByteArray.size_extract]; omega,rfl⟩
 · have h1:¬(k:Int)<10:=by omega
   go_enter Tryz.func150,Tryz.ntmps150
   go_wp2_with fail
   go_ret;exact⟨_,rfl,by simp [ByteArray.size_extract]; omega,rfl⟩
theorem format_any(k:Nat)(hk:k<64)(w:World):Calls Tryz.prog 118 #[.int .i64 k,.int .i64 10] w fun e w'=>∃s:ByteArray,e=.returned (.string s)∧s.size≤100∧w=w':=by
 have H:=Zh (zf k hk w);have h0:(0:Int)≤(k:Int):=by omega
 have h1:(k:Int)<100:=by omega
 go_enter Tryz.func118,Tryz.ntmps118
 go_wp2_with fail
 refine H.mono ?_;rintro e w' ⟨s,rfl,hs,rfl⟩
 go_wp2_with fail
 go_ret;exact⟨s,rfl,hs,rfl⟩
theorem J4u(k:Nat)(hk:k<64)(w:World):Calls Tryz.prog 92 #[.int .i64 k] w fun e w'=>∃s:ByteArray,e=.returned (.string s)∧s.size≤100∧w=w':=by
 have H:=Zh (format_any k hk w);go_enter Tryz.func92,Tryz.ntmps92
 go_wp2_with fail
 refine H.mono ?_;rintro e w' ⟨s,rfl,hs,rfl⟩
 go_wp2_with fail
 go_ret;exact⟨s,rfl,hs,rfl⟩
theorem itoa_any(k:Nat)(hk:k<64)(w:World):Calls Tryz.prog 60 #[.int .i64 k] w fun e w'=>∃s:ByteArray,e=.returned (.string s)∧s.size≤100∧w=w':=by
 have H:=Zh (J4u k hk w);go_enter Tryz.func60,Tryz.ntmps60
 go_wp2_with fail
 refine H.mono ?_;rintro e w' ⟨s,rfl,hs,rfl⟩
 go_wp2_with fail
 go_ret;exact⟨s,rfl,hs,rfl⟩
theorem of_in(p:Int)(h0:0≤p)(h1:p<64)(w:World):Calls Tryz.prog 83 #[.int .i64 p] w fun e w'=>e=.returned (.tuple #[.int .i64 (p/8),.int .i64 (p%8)])∧w=w':=by
 have d0:decide (p<0)=false:=decide_eq_false (by omega);have d1:decide (64≤p)=false:=decide_eq_false (by omega);have HQ:Hid (p.tdiv 8=p/8∧p.tmod 8=p%8):=Zh ⟨Int.tdiv_eq_ediv_of_nonneg h0,Int.tmod_eq_emod_of_nonneg h0⟩;go_enter Tryz.func83,Tryz.ntmps83
 go_wp2_with fail
 go_ret2;exact⟨by rw [←HQ.out.1,←HQ.out.2]; rfl,rfl⟩
def hds(l:List Int)(i:Nat):List Int:=(List.range 8).map fun k=>l.getD (i*8+k) 0
def mk(l:List Int)(i:Nat):Bk:=⟨3,i,zeros 32,0,[],0,hds l i⟩
theorem Y6(l:List Int)(i:Nat):(hds l i).length=8:=by simp [hds]
theorem J9i(l:List Int)(i k:Nat)(hk:k<8):(hds l i)[k]? = some (l.getD (i*8+k) 0):=by simp [hds,hk]
theorem J1m(h:∀x∈l,Jo x)(i:Nat):Jo (l.getD i 0):=by
 rw [List.getD_eq_getElem?_getD];cases e:l[i]? with
 | none=>exact Kb
 | some x=>exact h x (List.mem_of_getElem? e)
theorem J59(h:∀x∈l,Jo x)(i:Nat):∀x∈hds l i,Jo x:=fun x hx=>by
 obtain⟨k,_,rfl⟩:=List.mem_map.1 hx;exact J1m h _
theorem J9j(h:∀x∈l,Jo x)(hi:i<1000):(mk l i).Wf:=⟨⟨by show (-9223372036854775808:Int)≤3; decide,by show (3:Int)<9223372036854775808; decide⟩,⟨by simp only [mk]; omega,by simp only [mk]; omega⟩,Kb,Kb,J1 32,Kv 32,Nat.zero_le _,(fun x hx=>by cases hx),Y6 l i,J59 h i⟩
def Kz:Value:=.slice none 0 0
def row(F:Nat→Bk)(n:Nat):List Value:=(List.range n).flatMap fun i=>(F i).cells Kz
theorem kM(F:Nat→Bk)(n:Nat):row F (n+1)=row F n++(F n).cells Kz:=by
 simp [row,List.range_succ]
theorem Zb{F:Nat→Bk}(h:∀i,(F i).page.length=32∧(F i).heads.length=8)(n:Nat):(row F n).length=n*45:=by
 induction n with
 | zero=>rfl
 | succ n ih =>
  rw [kM,List.length_append,ih];have:((F n).cells Kz).length=45:=by simp [Bk.cells,(h n).1,(h n).2]
  omega
theorem J1n{F:Nat→Bk}(h:∀i,(F i).page.length=32∧(F i).heads.length=8)(hi:i<n)(hj:j<45):(row F n)[i*45+j]? = ((F i).cells Kz)[j]? := by
 induction n with
 | zero=>omega
 | succ n ih =>
  have hl:=Zb h n;rw [kM]
  by_cases e:i=n
  · subst e;rw [List.getElem?_append_right (by omega)];congr 1;omega
  · rw [List.getElem?_append_left (by omega)];exact ih (by omega)
theorem J9k(h:Int):Tryz.prog.built 54 [(0,.int .i64 h)]=some (Jq (h::zeros 7)).toArray:=by kernel_rfl
def one(h:Int):Bk:=⟨3,0,zeros 32,0,[],0,h::zeros 7⟩
theorem J9l(h:Int):Tryz.prog.built 82 [(0,.int .i64 3),(6,.agg (Jq (h::zeros 7)).toArray)]=some ((one h).arr (.slice none 0 0)):=by kernel_rfl
theorem J9m(h:Int):(one h).good=K5 h:=by
 have e:(zeros 7).all K5=true:=by decide
 simp [Bk.good,one,within,Bk.plain,e]
theorem Jfm{h:Int}(hh:Jo h):(one h).Wf:=⟨⟨by show (-9223372036854775808:Int)≤3; decide,by show (3:Int)<9223372036854775808; decide⟩,Kb,Kb,Kb,J1 32,Kv 32,Nat.zero_le _,(fun x hx=>by cases hx),rfl,fun x hx=>by
 rcases List.mem_cons.1 hx with rfl | hx
 · exact hh
 · exact Yn 7 x hx⟩
theorem len_nil:Len (.slice none 0 0) 0:=⟨_,_,rfl⟩
theorem kN(h:Int)(hh:Jo h)(w:World):Calls Tryz.prog 81 #[.int .i64 h] w (Zr w (.bool (K5 h))):=by
 have H:=Zh fun w=>QK (one h) (.slice none 0 0) len_nil (Jfm hh) w;have b1:=fun w=>run_build (P:=Tryz.prog) w 54 _ _ (J9k h);have b2:=fun w=>run_build (P:=Tryz.prog) w 82 _ _ (J9l h);rw [←J9m h];go_enter Tryz.func81,Tryz.ntmps81
 go_wp2_with fail
 refine (H.out _).mono ?_;rintro e w1 ⟨rfl,hb⟩;have HB:=Zh hb;clear hb
 go_wp2_with fail
 go_ret;exact⟨rfl,HB.out⟩
theorem qP(i:Nat):((fun _:Nat=>Bk.none) i).page.length=32∧((fun _:Nat=>Bk.none) i).heads.length=8:=⟨J1 32,J1 8⟩
theorem info82a:(Tryz.prog.info? 82).map (fun i=>(i.size,i.bytes))=some (45,152):=by kernel_rfl
theorem zero82b:(Tryz.prog.info? 82).bind (·.zero)=some (.agg (Bk.none.arr Kz)):=by kernel_rfl
theorem inf82:∃i,Tryz.prog.info? 82=some i∧i.zero=some (.agg (Bk.none.arr Kz))∧i.size=45∧i.bytes=152:=by
 have h1:=info82a;have h2:=zero82b;cases hq:Tryz.prog.info? 82 with
 | none=>simp [hq] at h1
 | some i=>simp [hq] at h1 h2; exact⟨i,rfl,h2,h1⟩
theorem J9n(n:Nat):madeCells (Bk.none.arr Kz) (n*45)=(row (fun _=>Bk.none) n).toArray:=by
 apply Array.ext_getElem?;intro q;have hl:=Zb qP n;have hs:(Bk.none.arr Kz).size=45:=by kernel_rfl
 by_cases hq:q<n*45
 · have e:q=q/45*45+q%45:=by omega
   have hq2:q%45<45:=Nat.mod_lt _ (by decide);have h1:=J1n qP (n:=n) (i:=q/45) (j:=q%45) (by omega) hq2;rw [←e] at h1;have h3:(row (fun _=>Bk.none) n).toArray[q]? = (Bk.none.cells Kz)[q%45]? := by rw [←h1]; simp
   rw [h3];simp only [madeCells,Array.getElem?_map,Array.getElem?_range,hq,if_true,Option.map_some,hs];have h2:q%45<(Bk.none.cells Kz).length:=by
    have:(Bk.none.cells Kz).length=45:=by kernel_rfl
    omega
   rw [List.getElem?_eq_getElem h2];congr 1;simp [Bk.arr,h2]
 · rw [Array.getElem?_eq_none (by rw [size_madeCells]; omega),Array.getElem?_eq_none (by simp; omega)]
theorem Jfn(n:Nat)(hn:n≤64)(w:World):(Instr.makeSlice 95 (.int .i64 (n:Int)) (.int .i64 (n:Int))).run Tryz.prog w=.ok (.slice (some ⟨w.heap.size,0,none⟩) n n) (w.alloc (.cells (row (fun _=>Bk.none) n).toArray 82)):=by
 obtain⟨i,hi,hz,hs,hb⟩:=inf82;have:=run_makeSlice (P:=Tryz.prog) w 95 82 i _ Tryz.underlying95 hi hz .i64 .i64 n n (by omega) (Int.le_refl _) (by rw [hs]; omega) (by rw [hb]; omega) (by omega);rw [hs] at this;rw [←J9n];simpa [Value.cells] using this
theorem make24(n:Nat)(hn:n≤64)(w:World):(Instr.makeSlice 41 (.int .i64 (n:Int)) (.int .i64 (n:Int))).run Tryz.prog w=.ok (.slice (some ⟨w.heap.size,0,none⟩) n n) (w.alloc (.cells (Jq (zeros n)).toArray 3)):=by
 obtain⟨i,hi,hz,hs,hb⟩:=J3j;have:=run_makeSlice (P:=Tryz.prog) w 41 3 i _ Tryz.underlying41 hi hz .i64 .i64 n n (by omega) (Int.le_refl _) (by rw [hs]; omega) (by rw [hb]; omega) (by omega);rw [hs] at this;have e:madeCells #[.int .i64 0] n=(Jq (zeros n)).toArray:=by
  apply Array.ext_getElem?;intro q
  by_cases hq:q<n
  · simp [madeCells,hq,zeros,Nat.mod_one]
  · rw [Array.getElem?_eq_none (by rw [size_madeCells]; omega),Array.getElem?_eq_none (by simp [zeros]; omega)]
 rw [←e];simpa [Value.cells] using this
open Go.RowKit
theorem hp_heads(g:Gm)(h:g.Ok)(l:List Int)(hl:(l.length:Int)=g.p)(hsm:∀x∈l,Jo x)(sv:Value)(w:World)(hs:IntsAt w sv l):Calls Tryz.prog 49 #[g.v,sv] w fun e w' =>
 ((∀x∈l,K5 x=true)∧e=.returned .nilIface∧Below w.heap.size w w')∨(¬(∀x∈l,K5 x=true)∧∃T d t ts,e=.returned (.iface T d)∧Chain w' 1 (t::ts) (.iface T d)∧Below w.heap.size w w'):=by
 have H:=Zh fun w=>JS g h w;have HN:=Zh fun s w=>new_err s w;have HP:=h.1.2;have HS:=Zh hsm;obtain⟨n,hn⟩:∃n,l.length=n:=⟨_,rfl⟩
 have HI:=Zh hs;obtain⟨sa,sc,rfl,-⟩:=hs;have d0:((n:Int) != g.p)=false:=by rw [←hn,hl]; simp
 have hn64:n≤64:=by omega
 have HL:=Zh hn;rw [hn] at HI ⊢;clear h hl hn hsm HP;go_enter Tryz.func49,Tryz.ntmps49
 go_wp2_with fail
 refine (H.out _).mono ?_;rintro e w1 ⟨rfl,hb⟩;have HB:=Zh (KS hb);clear hb;have c0:=HB.out.2.1.p
 go_wp2_with fail
 go_loopg [21] n (fun q i wr=>∃k:Nat,n-k≤q∧k≤n∧i=.int .i64 k∧(∀j x,j<k→l[j]? = some x→K5 x=true)∧Below w.heap.size w wr)
 case atStart=>exact⟨0,by omega,by omega,rfl,fun j x hj=>by omega,HB.out.1⟩
 case round =>
  obtain⟨k,hq,hk,rfl,hall,hb⟩:=hrel;have HA:=Zh hall;have HW:=Zh hb;clear hall hb
  by_cases hlt:k<n
  · have hk1:(k:Int)<(n:Int):=by omega
    obtain⟨x,hx⟩:∃x,l[k]? = some x:=⟨_,List.getElem?_eq_getElem (by have:=HL.out; omega)⟩
    have HX:=Zh hx;have HXS:=Zh (HS.out x (List.mem_of_getElem? hx));obtain⟨a2,c2,e2,hc⟩:=HI.out;injection e2 with e3 e4 e5
    subst e3 e5;obtain⟨b,o,rfl,c1⟩:=hc k x hx;have d1:=(HW.cell (block_lt_of_cell c1)).trans c1;clear hx hc c1 e4
    by_cases hh:K5 x=true
    · have HH:=Zh fun w=>kN x HXS.out w;rw [hh] at HH
      go_wp2_with fail
      refine (HH.out _).mono ?_;rintro e w2 ⟨rfl,hb⟩;have HW2:=Zh (Jk HW.out hb);clear hb
      go_wp2_with fail
      go_roundg (n-(k+1))
      case measure=>omega
      case rel=>exact⟨k+1,by omega,by omega,by go_num,fun j y hj hy=>by
       by_cases hj2:j<k
       · exact HA.out j y hj2 hy
       · obtain rfl:j=k:=by omega
         rw [HX.out] at hy
         obtain rfl:=Option.some.inj hy
         exact hh,HW2.out⟩
    · have HH:=Zh fun w=>kN x HXS.out w;have hh2:K5 x=false:=by simpa using hh
      rw [hh2] at HH;have HNO:Hid (¬∀x∈l,K5 x=true):=Zh fun h=>hh (h x (List.mem_of_getElem? HX.out));have HT:=Zh fun w=>itoa_any k (by omega) w;have HWR:=Zh wrap_err;clear hh
      go_wp2_with fail
      refine (HH.out _).mono ?_;rintro e w2 ⟨rfl,hb⟩;have HW2:=Zh (Jk HW.out hb);clear hb
      go_wp2_with fail
      refine (HN.out _ _).mono ?_;rintro e w3 ⟨T,d,t,ts,rfl,hc,hb⟩;have HC:=Zh hc;have HW3:=Zh (Jk HW2.out hb);clear hc hb
      go_wp2_with fail
      refine (HT.out _).mono ?_;rintro e w4 ⟨s,rfl,hs,rfl⟩
      go_wp2_with fail
      refine (HWR.out _ _ _ _ _ _ HC.out).mono ?_;rintro e w5 ⟨T2,d2,t2,ts2,rfl,hc,hb⟩;have HC2:=Zh hc;have HW5:=Zh (Jk HW3.out hb);clear hc hb
      go_wp2_with fail
      go_ret;exact .inr ⟨HNO.out,T2,d2,t2,ts2,rfl,HC2.out,HW5.out⟩
  · obtain rfl:k=n:=by omega
    have hk1:¬(k:Int)<(k:Int):=by omega
    go_wp2_with fail
    go_ret;exact .inl ⟨fun x hx=>by
     obtain⟨j,hj⟩:=List.getElem?_of_mem hx
     exact HA.out j x (by have:=(List.getElem?_eq_some_iff.1 hj).1; have:=HL.out; omega) hj,rfl,HW.out⟩
def F1(k:Nat)(i:Nat):Bk:=if i<k then mk [] i else Bk.none
theorem jR(l:List Int)(i:Nat):(mk l i).page.length=32∧(mk l i).heads.length=8:=⟨J1 32,Y6 l i⟩
theorem Jd1{p:Nat}(hp:p<n*8):(row (mk l) n)[p/8*45+(37+p%8)]? = some (.int .i64 (l.getD p 0)):=by
 rw [J1n (fun i=>jR l i) (by omega) (by omega)];have hl:(u8s (zeros 32)).length=32:=by simp [zeros]
 simp only [mk,Bk.cells];rw [show 37+p%8=(35+p%8)+1+1 by omega,List.getElem?_cons_succ,List.getElem?_cons_succ,List.getElem?_append_right (by omega),hl,show 35+p%8-32=p%8+1+1+1 by omega,List.getElem?_cons_succ,List.getElem?_cons_succ,List.getElem?_cons_succ,List.getElem?_map,J9i _ _ _ (by omega),show p/8*8+p%8=p by omega];rfl
theorem Jfo(m:Nat)(hm:m<64)(w:World):Calls Tryz.prog 83 #[.int .i64 m] w fun e w'=>e=.returned (.tuple #[.int .i64 ((m/8:Nat):Int),.int .i64 ((m%8:Nat):Int)])∧w=w':=by
 have:=of_in (m:Int) (by omega) (by omega) w
 rwa [show ((m/8:Nat):Int)=(m:Int)/8 by omega,show ((m%8:Nat):Int)=(m:Int)%8 by omega]
theorem _root_.Go.Proofs.YtdbfmikeaoaebaaGreatDoor.Pl.Gm.Ok.nat{g:Gm}(h:g.Ok):∃n p:Nat,g.maps=n∧g.p=p∧1≤n∧n≤8∧1≤p∧p≤64∧p≤n*8∧(n-1)*8<p:=by
 obtain⟨m1,m2,m3,m4⟩:=h.maps;obtain⟨⟨p1,p2⟩,-⟩:=h;refine⟨g.maps.toNat,g.p.toNat,by omega,by omega,by omega,by omega,by omega,by omega,by omega,by omega⟩
def J32(g:Gm)(l:List Int):Prop:=g.Ok∧(l.length:Int)=g.p∧∀x∈l,K5 x=true
open Go.RowKit
theorem Jd2:K5 0=true:=by decide
theorem qQ(h:∀x∈l,K5 x=true)(i:Nat):∀x∈hds l i,K5 x=true:=fun x hx=>by
 obtain⟨k,_,rfl⟩:=List.mem_map.1 hx;show K5 (l.getD (i*8+k) 0)=true;rw [List.getD_eq_getElem?_getD];cases e:l[i*8+k]? with
 | none=>exact Jd2
 | some y=>exact h y (List.mem_of_getElem? e)
theorem Jd3(h:∀x∈l,K5 x=true)(hi:i<8):(mk l i).good=true:=by
 have h1:((0:Int)≤(i:Int)):=by omega
 have h2:((i:Int)≤7):=by omega
 simp only [Bk.good,mk,within,Bk.plain];simp [h1,h2,qQ h i];exact fun x hx=>qQ h i x hx
theorem J1o(h:l.length≤i*8+k):l.getD (i*8+k) 0=0:=by
 rw [List.getD_eq_getElem?_getD,List.getElem?_eq_none h];rfl
theorem Jfp(g:Gm)(l:List Int)(hl:(l.length:Int)=g.p)(hsm:∀x∈l,Jo x)(hh:∀x∈l,K5 x=true)(i:Nat)(hi:i<8)(w:World) :
 Calls Tryz.prog 175 #[g.v,.agg ((mk l i).arr Kz),.int .i64 i] w fun e w'=>e=.returned .nilIface∧Below w.heap.size w w':=by
 have hwf:=J9j hsm (i:=i) (by omega);have HG:=Zh fun w=>QK (mk l i) Kz len_nil hwf w;rw [Jd3 hh hi] at HG;have HWF:=Zh hwf;have HB0:Hid (BAt ((mk l i).box Kz (g.box w)) (w.heap.size+1) (mk l i) Kz):=Zh (by have:=BAt.box hwf Kz (g.box w); simpa using this);have HW0:Hid (Below w.heap.size w ((mk l i).box Kz (g.box w))):=Zh ((gbox_below g w).alloc (by simp) _);have HG0:Hid (GAt ((mk l i).box Kz (g.box w)) w.heap.size g):=Zh ((GAt.box g w).below (box_below (mk l i) Kz (g.box w)) (by simp));have c0:((mk l i).box Kz (g.box w)).cell? ⟨w.heap.size+1,0,none⟩=some (.int .i64 3):=HB0.c0;have c1:((mk l i).box Kz (g.box w)).cell? ⟨w.heap.size+1,1,none⟩=some (.int .i64 i):=HB0.c1;have HL:=Zh hl;clear hwf hl hsm hh;go_enter Tryz.func175,Tryz.ntmps175;go_upto_region 5 with fail;clear c0 c1;refine Zl ?_;refine JF (cs:=(mk l i).arr Kz) HB0.all ((mk l i).arr_size HWF.out Kz) rfl rfl ?_;refine nm ?_;refine J0 rfl fun K hK=>?_;go_simp;refine (HG.out _).mono ?_;rintro e w2 ⟨rfl,hb⟩;have HB2:=Zh (HB0.below hb HB0.lt);have HW2:=Zh (Jk HW0.out hb);have HG2:=Zh (HG0.below hb (by simp; try omega));clear hb HB0 HG0 HW0;refine hK _ _ (nm ?_);clear hK K;refine tk (.bool false) ?_;refine tk (.bool false) ?_;go_upto_region 7 with fail;refine Zl ?_;refine tk (.pointer (some ⟨w.heap.size+1,37,none⟩)) ?_;refine XA (cs:=(Jq (hds l i)).toArray) HB2.heads (by simp [hds]) rfl rfl ?_;refine nm ?_;refine tk (.int .i64 0) ?_;refine Zn ?_;have c3:=HG2.p;have hi1:(i:Int)<8:=by omega
 go_wp2_with fail
 go_loopg [27] 8 (fun q c wr=>∃m:Nat,8-m≤q∧m≤8∧c=.int .i64 m∧w2=wr)
 case atStart=>exact⟨0,by omega,by omega,rfl,rfl⟩
 case round =>
  obtain⟨m,hq,hm,rfl,rfl⟩:=hrel
  by_cases hlt:m<8
  · have hk1:(m:Int)<8:=by omega
    have hx:=J9i l i m hlt;obtain⟨x,hxe⟩:∃x,l.getD (i*8+m) 0=x:=⟨_,rfl⟩
    rw [hxe] at hx;have hix:=fun w=>jJ w (hds l i) (Y6 l i) m x hx
    by_cases hp:g.p≤(i:Int)*8+m
    · have hx0:x=0:=by rw [←hxe]; exact J1o (by have:=HL.out; omega)
      have d1:decide (g.p≤(i:Int)*8+m)=true:=decide_eq_true hp;have d2:(x != 0)=false:=by rw [hx0]; rfl
      clear hx hxe hx0
      go_wp2_with fail
      go_roundg (8-(m+1))
      case measure=>omega
      case rel=>exact⟨m+1,by omega,by omega,by go_num,rfl⟩
    · have d1:decide (g.p≤(i:Int)*8+m)=false:=decide_eq_false hp;clear hx hxe
      go_wp2_with fail
      go_roundg (8-(m+1))
      case measure=>omega
      case rel=>exact⟨m+1,by omega,by omega,by go_num,rfl⟩
  · obtain rfl:m=8:=by omega
    go_wp2_with fail
    go_ret;exact⟨rfl,HW2.out⟩
theorem Bk.arr_one{b:Bk}:∀v∈b.arr Kz,v.oneCell'=true:=fun v hv=>by
 simp only [Bk.arr,Bk.cells,List.mem_toArray,List.mem_cons,List.mem_append,List.mem_map] at hv;rcases hv with rfl | rfl | ⟨z,_,rfl⟩ | rfl | rfl | rfl | ⟨z,_,rfl⟩ <;> rfl
theorem info82s{b:Bk}(h:b.Wf):(Tryz.prog.info? 82).map (·.size)=some (b.arr Kz).size:=by rw [b.arr_size h]; exact K9
theorem same82{b:Bk}(h:b.Wf):(Bk.none.cells Kz).length=(b.arr Kz).size:=by rw [b.arr_size h]; exact Bk.none.cells_length Bk.none_wf Kz
theorem J5a{r:Nat}(h:Blk w r (row (mk l) n))(hi:i<n):At w r (i*45) ((mk l i).arr Kz):=fun j hj=>h.cell (by
 have h45:((mk l i).cells Kz).length=45:=by simp [Bk.cells,(jR l i).1,(jR l i).2]
 have hj':j<((mk l i).cells Kz).length:=by simpa [Bk.arr] using hj
 rw [J1n (fun i=>jR l i) hi (by omega),List.getElem?_eq_getElem hj']
 simp [Bk.arr])
theorem Jd4(g:Gm)(l:List Int)(h:J32 g l)(hsm:∀x∈l,Jo x)(n:Nat)(hn:g.maps=n)(r:Nat)(w:World)(hr:Blk w r (row (mk l) n)) :
 Calls Tryz.prog 157 #[g.v,.slice (some ⟨r,0,none⟩) n n] w fun e w'=>e=.returned .nilIface∧Below w.heap.size w w':=by
 have HM:=Zh fun w=>Rn.maps_yes g h.1 w;have HG:=Zh fun w=>JS g h.1 w;have hn8:n≤8:=by have:=h.1.maps; omega
 have HP:=Zh fun i hi w=>Jfp g l h.2.1 hsm h.2.2 i hi w;have HWF:=Zh fun i (hi:i<8)=>J9j hsm (i:=i) (by omega);rw [hn] at HM;have HRB:=Zh hr;clear h hn hsm hr;go_enter Tryz.func157,Tryz.ntmps157
 go_wp2_with fail
 refine (HG.out _).mono ?_;rintro e w1 ⟨rfl,hb⟩;have HB:=Zh (KS hb);clear hb;obtain⟨c0,c1,c2,c3⟩:=HB.out.2.1
 go_wp2_with fail
 refine (HM.out _).mono ?_;rintro e w2 ⟨rfl,hb⟩;have HB2:=Zh (Zm HB.out hb);clear hb HB c0 c1 c2 c3
 go_wp2_with fail
 go_loopg [22] n (fun q c wr=>∃k:Nat,n-k≤q∧k≤n∧c=.int .i64 k∧(Below w.heap.size w wr∧GAt wr w.heap.size g∧w.heap.size<wr.heap.size))
 case atStart=>exact⟨0,by omega,by omega,rfl,HB2.out⟩
 case round =>
  obtain⟨k,hq,hk,rfl,hb⟩:=hrel;have HB:=Zh hb;clear hb HB2
  by_cases hlt:k<n
  · have hk1:(k:Int)<(n:Int):=by omega
    have HP1:=Zh (HP.out k (by omega));have HW1:=Zh (HWF.out k (by omega));have HA:=Zh (J5a (HRB.below HB.out.1 HRB.lt) hlt);go_upto_region 7 with fail;refine Zl ?_;refine tk (.int .i64 k) ?_;refine tk (.pointer (some ⟨r,k*45,none⟩)) ?_;refine JF (cs:=(mk l k).arr Kz) HA.out ((mk l k).arr_size HW1.out Kz) rfl rfl ?_;refine nm ?_;refine J4 zero82b rfl ?_;intro w3 hA3 hb3 hl3;refine nm ?_;clear hl3;refine tk (.int .i64 k) ?_;refine J3 (cs:=(mk l k).arr Kz) hA3 (same82 HW1.out) (info82s HW1.out) Bk.arr_one rfl rfl rfl ?_;intro w4 hD hO hlD;refine nm ?_;clear hlD hA3;have hbb:Below wr.heap.size wr w4:=hb3.trans (hO.below hb3.size fun k hk=>Nat.le_of_eq hk.symm);have HB4:=Zh (Zm HB.out hbb);have HD:=Zh hD;clear hb3 hO hbb hD HA;refine Zn ?_;obtain⟨c0,c1,c2,c3⟩:=HB4.out.2.1;generalize wr.heap.size=gk at *;clear HB;go_upto_region 8 with fail;refine Zl ?_;refine tk (.agg #[.int .i64 g.p,.int .i64 g.s,.int .i64 g.l,.int .i64 g.f]) ?_;refine JF (cs:=(mk l k).arr Kz) (HD.all rfl) ((mk l k).arr_size HW1.out Kz) rfl rfl ?_;refine nm ?_;refine tk (.int .i64 k) ?_;refine J0 rfl fun K hK=>?_;go_simp;refine (HP1.out _).mono ?_;rintro e w5 ⟨rfl,hb⟩;have HB5:=Zh (Zm HB4.out hb);clear hb HB4;refine hK _ _ ?_;clear hK K c0 c1 c2 c3;refine nm ?_;refine tk (.nilIface) ?_;go_wp2_with fail
    go_roundg (n-(k+1))
    case measure=>omega
    case rel=>exact⟨k+1,by omega,by omega,by go_num,HB5.out⟩
  · obtain rfl:n=k:=by omega
    have hk1:¬(n:Int)<(n:Int):=by omega
    go_wp2_with fail
    go_ret;exact⟨rfl,HB.out.1⟩
theorem _root_.Go.Proofs.YtdbfmikeaoaebaaGreatDoor.IntsAt.of_blk(h:Blk w m (Jq l)):IntsAt w (.slice (some ⟨m,0,none⟩) l.length cap) l :=
 ⟨_,cap,rfl,fun i x hx=>⟨m,0,rfl,by rw [Nat.zero_add]; exact h.cell (by rw [List.getElem?_map,hx]; rfl)⟩⟩
def fill(l:List Int)(p k:Nat):List Int:=l.take k++zeros (p-k)
theorem J5b(l:List Int)(p:Nat):fill l p 0=zeros p:=by simp [fill]
theorem J9o{p:Nat}(h:l.length=p):fill l p p=l:=by
 subst h;simp [fill,zeros]
theorem Jd5{p:Nat}(h:l.length=p)(hk:k<p):(Jq (fill l p k))[k]? = some (.int .i64 0):=by
 have:(fill l p k)[k]? = some 0:=by
  unfold fill;rw [List.getElem?_append_right (by simp; omega)];have e1:k-(l.take k).length=0:=by simp; omega
  rw [e1,show p-k=(p-(k+1))+1 by omega];simp [zeros,List.replicate_succ]
 rw [List.getElem?_map,this];rfl
theorem J9p{p:Nat}{x:Int}(h:l.length=p)(hx:l[k]? = some x):(Jq (fill l p k)).set k (.int .i64 x)=Jq (fill l p (k+1)):=by
 have hk:=(List.getElem?_eq_some_iff.1 hx).1;rw [show (Value.int .i64 x)=(Value.int IntKind.i64) x from rfl,←List.map_set];congr 1;unfold fill;rw [List.set_append_right _ _ (by simp; omega),List.take_add_one,hx];have e1:k-(l.take k).length=0:=by simp; omega
 rw [e1,show p-k=(p-(k+1))+1 by omega];simp [zeros,List.replicate_succ]
end Mp
open Go.RowKit
variable {B cap g i k n:Nat} {l:List Int} {sv tv:Value} {w w':World}
namespace Us
open Go.RowKit Pl
open Go.RowKit
open Go.RowKit
def Own(w:World)(B:Nat)(sv:Value)(l:List Int):Prop:=w.ownsRow B 3 1 sv l.length (Jq l)
theorem Own.nil(w:World)(B:Nat):Own w B (.slice none 0 0) []:=World.ownsRow_nil w B 3 1
theorem Own.ints(h:Own w B sv l):IntsAt w sv l:=by
 rcases h.2 with ⟨rfl,h0⟩ | ⟨g,cap,cur,rfl,hb,hg,hn,hm,hs,ht⟩
 · have:l=[]:=List.eq_nil_of_length_eq_zero h0;subst this;exact IntsAt.nil _ _ _
 · refine⟨_,cap,rfl,fun i x hx=>⟨g,0,rfl,?_⟩⟩;rw [Nat.zero_add,World.ownsRow.cellAt h i (by have:=(List.getElem?_eq_some_iff.1 hx).1; omega),List.getElem?_map,hx];rfl
theorem Own.lt(h:Own w B sv l):∀k,sv.ownBlock=some k→B≤k∧k<w.heap.size:=World.ownsRow.lt h
theorem Own.below(h:Own w B sv l)(hb:Below w.heap.size w w'):Own w' B sv l:=by
 refine⟨h.1,?_⟩;rcases h.2 with hn | ⟨g,cap,cur,e,hB,hg,r⟩
 · exact .inl hn
 · exact .inr ⟨g,cap,cur,e,hB,(hb.block g (Array.getElem?_eq_some_iff.1 hg).1).trans hg,r⟩
theorem Own.mono{C:Nat}(h:Own w B sv l)(hc:C≤B):Own w C sv l:=World.ownsRow.mono h hc
theorem Jd6{m:List Int}(h:Own w B sv l)(hB:B≤w.heap.size)(k:IntsAt w tv m)(hlen:l.length+m.length≤1000000)(ty:TypeId) :
 ∃sv' w',(Builtin.append_ #[41,41] ty #[sv,tv]).run Tryz.prog w=.ok sv' w'∧Own w' B sv' (l++m)∧w.grownBy w' sv.ownBlock:=by
 obtain⟨i,hi,hz,hs,hby⟩:=J3j;cases m with
 | nil =>
  have hsl:∃a c,sv=.slice a l.length c∧l.length≤c:=by
   rcases h.2 with ⟨e,h0⟩ | ⟨g,cap,cur,e,_,_,hn,_⟩
   · exact⟨none,0,by rw [e,h0],by omega⟩
   · exact⟨_,cap,e,hn⟩
  obtain⟨a,c,rfl,hle⟩:=hsl;obtain⟨ta,tc,rfl,_⟩:=k;refine⟨_,w,run_append_nothing w 41 41 ty 3 i Tryz.underlying41 hi a l.length c hle _ ⟨.inl ⟨3,Tryz.underlying41⟩,fun _=>by rfl,?_,?_,by simp,fun u hu=>by cases hu⟩,by rw [List.append_nil]; exact h,⟨rfl,rfl,rfl,Nat.le_refl _,fun _ _ _=>rfl⟩⟩
  · cases ta <;> simp [Builtin.firstCells,hs,loadCells,loadCellsFrom]
  · cases ta <;> simp [Builtin.firstCells,hs,loadCells,loadCellsFrom]
 | cons x m =>
  obtain⟨b,o,c,rfl,hc⟩:=k.has (by simp);obtain⟨v',w',hr,h2,h3,_⟩:=run_append_own (P:=Tryz.prog) w B 41 ty 3 i (.int .i64 0) 1 8 Tryz.underlying41 hi hz hs hby rfl (by decide) sv l.length (Jq l) h ⟨b,o,none⟩ (x::m).length c (Jq (x::m)) (by simp) (fun j u hu=>by
   rw [List.getElem?_map] at hu
   cases hz:(x::m)[j]? with
   | none=>simp [hz] at hu
   | some z =>
    simp [hz] at hu
    subst hu
    rw [show (⟨b,o,none⟩:Addr).add j=⟨b,o+j,none⟩ by unfold Addr.add; split <;> simp_all]
    exact hc j z hz) (fun u hu=>by obtain⟨z,_,rfl⟩:=List.mem_map.1 hu; rfl) (by simp only [maxLen]; omega) (by omega) hB
  refine⟨v',w',hr,?_,h3⟩;unfold Own;rw [List.length_append,show Jq (l++x::m)=Jq l++Jq (x::m) by simp];exact h2
section
variable {ops:Array Oper} {rest:List Oper} {dst:Option Tmp} {x y:Operand} {t2:TypeId} {pos:String} {after:Array Edge} {guard:Option (Nat×Bool)} {a:Act} {w:World} {Q:Exit→Act→World→Prop}
theorem Jh0{m:List Int}(h:Own w B sv l)(hB:B≤w.heap.size)(k:IntsAt w tv m)(hlen:l.length+m.length≤1000000)(hx:a.eval x=sv)(hy:a.eval y=tv)(hw:Region.wanted ⟨dst,.call { callee:=.builtin .append,args:=#[x,y],argTypes:=#[41,41] },t2,pos,after,guard⟩ (yielded ops a.tmps)=true)(hh:∀sv' w',Own w' B sv' (l++m)→Below B w w'→wpList Tryz.prog ops Q rest (a.put dst sv') w'):wpList Tryz.prog ops Q (⟨dst,.call { callee:=.builtin .append,args:=#[x,y],argTypes:=#[41,41] },t2,pos,after,guard⟩::rest) a w:=by
 obtain⟨sv',w',hr,ho,hg⟩:=Jd6 h hB k hlen t2;exact Jp sv' w' hw (Ql a.eval _ x y 41 41 rfl sv tv sv' hx hy hr) (hh sv' w' ho (Kt hg hB fun k hk=>(h.lt k hk).1))
end
theorem Own.lit(w:World)(B:Nat)(hB:B≤w.heap.size)(l:List Int)(hl:l.length≤1000000)(cs:Array Value)(hc:cs=(Jq l).toArray):Own (w.alloc (.cells cs 3)) B (.slice (some ⟨w.heap.size,0,none⟩) l.length l.length) l:=by
 subst hc;exact⟨by simp,.inr ⟨w.heap.size,l.length,_,rfl,hB,heap_alloc_new w _,Nat.le_refl _,by simp only [maxLen]; omega,by simp,List.take_of_length_le (by simp)⟩⟩
theorem Own.set(h:Own w B (.slice (some ⟨g,0,none⟩) n cap) l)(i:Nat)(v:Int)(hi:i<l.length):Own (w.setCell ⟨g,i,none⟩ (.int .i64 v)) B (.slice (some ⟨g,0,none⟩) n cap) (l.set i v):=by
 rcases h.2 with ⟨e,_⟩ | ⟨g',cap',cur,e,hb,hg,hn,hm,hs,ht⟩
 · cases e
 · cases e;refine⟨by simp,.inr ⟨g,cap,cur.setIfInBounds i (.int .i64 v),by rw [List.length_set],hb,?_,by rw [List.length_set]; exact hn,hm,by simpa using hs,?_⟩⟩
   · rw [heap_setCell_same w g i cur 3 (.int .i64 v) hg]
   · have e2:(cur.setIfInBounds i (.int .i64 v)).toList=cur.toList.set i (.int .i64 v):=by simp
     rw [e2,List.length_set,List.take_set,ht];simp
open Go.RowKit
instance (g:Gm):Decidable g.Ok:=by unfold Gm.Ok; infer_instance
theorem gbox_below(g:Gm)(w:World):Below w.heap.size w (g.box w):=(Below.refl _ _).alloc (Nat.le_refl _) _
open Go.RowKit
def _root_.Go.Proofs.YtdbfmikeaoaebaaGreatDoor.Pl.Gm.In(g:Gm)(n:Int):Prop:=4≤n∧n≤4+g.s*g.l-1
instance (g:Gm) (n:Int):Decidable (g.In n):=by unfold Gm.In; infer_instance
def _root_.Go.Proofs.YtdbfmikeaoaebaaGreatDoor.Pl.Gm.seg(g:Gm)(n:Int):Nat:=((n-4)/g.l).toNat
def _root_.Go.Proofs.YtdbfmikeaoaebaaGreatDoor.Pl.Gm.segs(g:Gm):Nat:=g.s.toNat
theorem _root_.Go.Proofs.YtdbfmikeaoaebaaGreatDoor.Pl.Gm.Ok.segs{g:Gm}(h:g.Ok):g.s=(g.segs:Int)∧6≤g.segs∧g.segs≤16:=by
 obtain⟨_,⟨h3,h4⟩,_,_⟩:=h;unfold Gm.segs;omega
theorem _root_.Go.Proofs.YtdbfmikeaoaebaaGreatDoor.Pl.Gm.Ok.seg{g:Gm}(h:g.Ok){n:Int}(hn:g.In n):(n-4)/g.l=(g.seg n:Int)∧g.seg n<g.segs:=by
 obtain⟨hs,_⟩:=h.segs;obtain⟨_,⟨h3,h4⟩,⟨h5,h6⟩,_⟩:=h;obtain⟨n0,n1⟩:=hn;have a:0≤(n-4)/g.l:=Int.ediv_nonneg (by omega) (by omega);have b:(n-4)/g.l<g.s:=Int.ediv_lt_of_lt_mul (by omega) (by omega);unfold Gm.seg;omega
def YR(n:Nat):List Int:=List.replicate n 0
theorem take_snoc{α:Type}{l:List α}{x:α}(h:l[k]? = some x):l.take (k+1)=l.take k++[x]:=by
 rw [List.take_add_one,h];rfl
def jc(g:Gm)(l:List Int)(s:Nat):Nat:=l.countP fun n=>decide (g.In n)&&(g.seg n == s)
theorem ju(g:Gm)(a b:List Int)(s:Nat):jc g (a++b) s=jc g a s+jc g b s:=by simp [jc,List.countP_append]
theorem Jd7(g:Gm)(l:List Int)(s:Nat):jc g l s≤l.length:=List.countP_le_length
theorem zp(g:Gm)(n:Int)(s:Nat):jc g [n] s=if g.In n∧g.seg n=s then 1 else 0:=by
 by_cases h:g.In n <;> by_cases k:g.seg n=s <;> simp [jc,h,k]
def Qv(g:Gm)(l:List Int):List Int:=(List.range g.segs).map fun s=>(jc g l s:Int)
theorem KM(g:Gm)(l:List Int):(Qv g l).length=g.segs:=by simp [Qv]
theorem YN{g:Gm}{s:Nat}(h:s<g.segs):(Qv g l)[s]? = some (jc g l s:Int):=by simp [Qv,h]
theorem J1p(g:Gm):Qv g []=YR g.segs:=by
 refine List.ext_getElem? fun i=>?_
 by_cases h:i<g.segs
 · rw [YN h];simp [YR,jc,h]
 · rw [List.getElem?_eq_none (by rw [KM]; omega),List.getElem?_eq_none (by simp [YR]; omega)]
theorem J5c{g:Gm}{n:Int}(hk:l[k]? = some n)(hn:¬g.In n):Qv g (l.take (k+1))=Qv g (l.take k):=by
 unfold Qv;rw [take_snoc hk];refine List.map_congr_left fun s _=>?_;rw [ju,zp,if_neg fun h=>hn h.1];rfl
theorem J1q{g:Gm}{n:Int}(hk:l[k]? = some n)(hn:g.In n):Qv g (l.take (k+1))=(Qv g (l.take k)).set (g.seg n) ((jc g (l.take k) (g.seg n):Nat)+1:Int):=by
 refine List.ext_getElem? fun i=>?_
 by_cases h:i<g.segs
 · rw [YN h,List.getElem?_set,KM,take_snoc hk,ju,zp]
   by_cases e:g.seg n=i
   · rw [if_pos ⟨hn,e⟩,if_pos e,if_pos (by omega),e];rfl
   · rw [if_neg fun h=>e h.2,if_neg e,YN h];rfl
 · rw [List.getElem?_eq_none (by rw [KM]; omega),List.getElem?_eq_none (by rw [List.length_set,KM]; omega)]
def cts(g:Gm)(l:List Int):List Int:=if g.Ok then Qv g l else []
theorem Jd8{g:Gm}(h:g.Ok)(l:List Int):cts g l=Qv g l:=if_pos h
theorem Jfq{g:Gm}(h:¬g.Ok)(l:List Int):cts g l=[]:=if_neg h
def XG(l:List Int)(h:Int)(n:Nat):List Int:=((List.range n).filter fun i=>l.getD i 1 == 0&&decide ((i:Int)≠h)).map fun i:Nat=>(i:Int)
def J9q(l:List Int)(h:Int):List Int:=XG l h l.length
theorem J1r{h:Int}(hk:l[k]? = some 0)(hh:(k:Int)≠h):XG l h (k+1)=XG l h k++[(k:Int)]:=by
 simp [XG,List.range_succ,List.filter_append,hk,hh]
theorem J5d{h:Int}{x:Int}(hk:l[k]? = some x)(hx:¬(x=0∧(k:Int)≠h)):XG l h (k+1)=XG l h k:=by
 simp only [XG,List.range_succ,List.filter_append,List.map_append];have e:(l.getD k 1 == 0&&decide ((k:Int)≠h))=false:=by
  rw [List.getD_eq_getElem?_getD,hk]
  by_cases a:x=0
  · have b:(k:Int)=h:=Classical.byContradiction fun b=>hx ⟨a,b⟩;simp [a,b]
  · simp [a]
 simp only [List.filter_cons,e,Bool.false_eq_true,if_false,List.filter_nil,List.map_nil,List.append_nil]
theorem J5e(l:List Int)(h:Int)(n:Nat):(XG l h n).length≤n:=by
 simpa [XG] using Nat.le_trans (List.length_filter_le _ _) (by simp)
open Go.RowKit
theorem Own.cell(h:Own w B (.slice (some ⟨g,0,none⟩) n cap) l){x:Int}(hx:l[i]? = some x):w.cell? ⟨g,i,none⟩=some (.int .i64 x)∧w.frozen? ⟨g,i,none⟩=false:=by
 have h0:=h;rcases h.2 with ⟨e,_⟩ | ⟨g',cap',cur,e,hb,hg,hn,hm,hs,ht⟩
 · cases e
 · cases e;refine⟨?_,frozen_of_row w g i _ _ hg⟩;have hi:=(List.getElem?_eq_some_iff.1 hx).1;rw [World.ownsRow.cellAt h0 i (by omega),List.getElem?_map,hx];rfl
theorem J5f(n:Int)(b:Bool)(w:World):Calls Tryz.prog 127 #[.int .i64 0,.int .i64 n,.bool b] w fun e w'=>e=.returned (.bool (!(decide (n=0)&&!b)))∧w=w':=by
 cases b with
 | true =>
  go_enter Tryz.func127,Tryz.ntmps127
  go_wp2_with fail
  go_ret;exact⟨J9 (by simp),rfl⟩
 | false =>
  rcases Int.lt_trichotomy n 0 with h | h | h
  · have h1:¬0<n:=by omega
    have H:Hid (n≠0):=Zh (by omega);go_enter Tryz.func127,Tryz.ntmps127
    go_wp2_with fail
    go_ret;exact⟨J9 (by simp [H.out]),rfl⟩
  · subst h;go_enter Tryz.func127,Tryz.ntmps127
    go_wp2_with fail
    go_ret;exact⟨J9 (by simp),rfl⟩
  · have H:Hid (n≠0):=Zh (by omega);go_enter Tryz.func127,Tryz.ntmps127
    go_wp2_with fail
    go_ret;exact⟨J9 (by simp [H.out]),rfl⟩
theorem J9r(l:List Int)(hn:l.length≤1000)(h:Int)(sv:Value)(w:World)(hs:IntsAt w sv l) :
 Calls Tryz.prog 100 #[sv,.int .i64 h] w fun e w'=>∃rv,e=.returned rv∧Own w' w.heap.size rv (J9q l h)∧Below w.heap.size w w':=by
 obtain⟨a,cap,rfl,hc⟩:=hs;have HL:=Zh hc;have HP:=Zh fun n b W=>J5f n b W;clear hc;unfold J9q;go_enter Tryz.func100,Tryz.ntmps100
 go_wp2_with fail
 go_loopg [10,5] l.length (fun q i s wr=>∃(k:Nat) (ov:Value),ov=s∧l.length-k≤q∧k≤l.length∧i=.int .i64 k∧Own wr w.heap.size ov (XG l h k)∧Below w.heap.size w wr)
 case atStart=>exact⟨0,_,rfl,by omega,by omega,rfl,Own.nil _ _,Below.refl _ _⟩
 case round =>
  obtain⟨k,ov,rfl,hq,hk,rfl,ho,hb⟩:=hrel;have HO:=Zh ho;have HW:=Zh hb;clear ho hb
  by_cases hlt:k<l.length
  · have hk1:(k:Int)<(l.length:Int):=by omega
    have hlk:l[k]? = some l[k]:=by simp [hlt]
    obtain⟨b,o,rfl,c1⟩:=HL.out k l[k] hlk;have d1:=(HW.cell (block_lt_of_cell c1)).trans c1;have HY:=Zh (J1r (l:=l) (h:=h) (k:=k));have HZ:=Zh (J5d (h:=h) hlk);generalize l[k]=x at *
    by_cases hx:x=0∧(k:Int)≠h
    · obtain⟨rfl,hx2⟩:=hx;have HC:=Zh (HY.out hlk hx2);have e1:((k:Int) == h)=false:=by simpa using hx2
      have H3:=Zh (HP.out 0 false);rw [show (!(decide ((0:Int)=0)&&!false))=false from rfl] at H3;clear HY HZ hx2 hlk c1
      go_wp2_with fail
      refine (H3.out _).mono ?_;rintro e w1 ⟨rfl,rfl⟩;go_upto_region 6 with fail;refine Zl ?_;refine tk (ov) ?_;refine tk (.int .i64 k) ?_;refine Jp (.slice (some ⟨wr.heap.size,0,none⟩) 1 1) (wr.alloc (.cells #[.int .i64 k] 3)) rfl (by go_simp) ?_;refine nm ?_;have hbl:Below wr.heap.size wr (wr.alloc (.cells #[.int .i64 k] 3)):=(Below.refl _ _).alloc (Nat.le_refl _) _;have hli:Own (wr.alloc (.cells #[.int .i64 k] 3)) wr.heap.size (.slice (some ⟨wr.heap.size,0,none⟩) 1 1) [(k:Int)]:=Own.lit wr wr.heap.size (Nat.le_refl _) [(k:Int)] (by simp) _ rfl;have hle:=J5e l h k;refine Jh0 (HO.below hbl) (Nat.le_trans HW.size hbl.size) hli.ints (by simp only [List.length_cons,List.length_nil]; omega) rfl rfl rfl ?_;intro s2 w2 ho2 hb2;refine nm ?_;refine tk (s2) ?_;refine Zn ?_;have HO2:=Zh ho2;have HB2:=Zh ((HW.trans (hbl.mono HW.size)).trans hb2);clear hbl hli ho2 hb2 hle
      go_wp2_with fail
      go_roundg (l.length-(k+1))
      case measure=>omega
      case rel=>exact⟨k+1,_,rfl,by omega,by omega,by go_num,by rw [HC.out]; exact HO2.out,HB2.out⟩
    · have HC:=Zh (HZ.out hx)
      by_cases hkh:(k:Int)=h
      · have e1:((k:Int) == h)=true:=by simpa using hkh
        have H3:=Zh (HP.out x true);rw [show (!(decide (x=0)&&!true))=true by simp] at H3;clear HY HZ hx hlk c1 hkh
        go_wp2_with fail
        refine (H3.out _).mono ?_;rintro e w1 ⟨rfl,rfl⟩
        go_wp2_with fail
        go_roundg (l.length-(k+1))
        case measure=>omega
        case rel=>exact⟨k+1,_,rfl,by omega,by omega,by go_num,by rw [HC.out]; exact HO.out,HW.out⟩
      · have e1:((k:Int) == h)=false:=by simpa using hkh
        have H3:=Zh (HP.out x false);rw [show (!(decide (x=0)&&!false))=true by simp; exact fun a=>hx ⟨a,hkh⟩] at H3;clear HY HZ hx hlk c1 hkh
        go_wp2_with fail
        refine (H3.out _).mono ?_;rintro e w1 ⟨rfl,rfl⟩
        go_wp2_with fail
        go_roundg (l.length-(k+1))
        case measure=>omega
        case rel=>exact⟨k+1,_,rfl,by omega,by omega,by go_num,by rw [HC.out]; exact HO.out,HW.out⟩
  · obtain rfl:k=l.length:=by omega
    have hk1:¬(l.length:Int)<(l.length:Int):=by omega
    go_wp2_with fail
    go_ret;exact⟨_,rfl,HO.out,HW.out⟩
open Go.RowKit
theorem make24(n:Nat)(hn:n≤64)(w:World):(Instr.makeSlice 41 (.int .i64 (n:Int)) (.int .i64 (n:Int))).run Tryz.prog w=.ok (.slice (some ⟨w.heap.size,0,none⟩) n n) (w.alloc (.cells (Jq (YR n)).toArray 3)):=by
 obtain⟨i,hi,hz,hs,hb⟩:=J3j;have:=run_makeSlice (P:=Tryz.prog) w 41 3 i _ Tryz.underlying41 hi hz .i64 .i64 n n (by omega) (Int.le_refl _) (by rw [hs]; omega) (by rw [hb]; omega) (by omega);rw [hs] at this;have e:madeCells #[.int .i64 0] n=(Jq (YR n)).toArray:=by
  apply Array.ext_getElem?;intro q
  by_cases hq:q<n
  · simp [madeCells,hq,YR,Nat.mod_one]
  · rw [Array.getElem?_eq_none (by rw [size_madeCells]; omega),Array.getElem?_eq_none (by simp [YR]; omega)]
 rw [←e];simpa [Value.cells] using this
theorem J9s(n:Nat)(hn:n≤64)(w:World):Own (w.alloc (.cells (Jq (YR n)).toArray 3)) w.heap.size (.slice (some ⟨w.heap.size,0,none⟩) n n) (YR n):=by
 have h:=Own.lit w w.heap.size (Nat.le_refl _) (YR n) (by simp [YR]; omega) _ rfl
 rwa [show (YR n).length=n by simp [YR]] at h
theorem zq(w:World)(o:Obj):Below w.heap.size w (w.alloc o):=(Below.refl _ _).alloc (Nat.le_refl _) _
theorem J9t(g:Gm)(h:¬g.Ok)(l:List Int)(sv:Value)(w:World):Calls Tryz.prog 101 #[g.v,sv] w fun e w'=>∃rv,e=.returned rv∧Own w' w.heap.size rv (cts g l)∧Below w.heap.size w w':=by
 have H:=Zh fun w=>Zk g h w;have HC:=Zh (Jfq h l);clear h;go_enter Tryz.func101,Tryz.ntmps101
 go_wp2_with fail
 refine (H.out _).mono ?_;rintro e w1 ⟨rfl,hb⟩;have HB:=Zh (KS hb);clear hb
 go_wp2_with fail
 go_ret;exact⟨_,rfl,by rw [HC.out]; exact Own.nil _ _,HB.out.1⟩
theorem J5g(g:Gm)(h:g.Ok)(l:List Int)(hn:l.length≤1000)(sv:Value)(w:World)(hs:IntsAt w sv l) :
 Calls Tryz.prog 101 #[g.v,sv] w fun e w'=>∃rv,e=.returned rv∧Own w' w.heap.size rv (cts g l)∧Below w.heap.size w w':=by
 rw [Jd8 h];obtain⟨a,cap,rfl,hc⟩:=hs;have H:=Zh fun w=>JS g h w;have HL:=Zh hc;have HS:=Zh fun n (hn:g.In n)=>h.seg hn;obtain⟨n,hsegs⟩:∃n,g.segs=n:=⟨_,rfl⟩
 have HN:Hid (g.segs=n):=hsegs;obtain⟨hg,hn6,hn16⟩:=h.segs;rw [hsegs] at hg hn6 hn16;have HG:=Zh hg;have MK:=fun w=>make24 n (by omega) w;have HI:=Zh fun n (hn:g.In n) W=>Rn.of_in g h n hn W;have HU:=Zh fun n (hn:¬g.In n) W=>Rn.of_out g h n hn W;clear h hc hg hsegs;go_enter Tryz.func101,Tryz.ntmps101
 go_wp2_with fail
 refine (H.out _).mono ?_;rintro e w1 ⟨rfl,hb⟩;have HB:=Zh (KS hb);clear hb;have c1:=HB.out.2.1.s;rw [HG.out] at c1
 go_wp2_with fail
 clear c1;obtain⟨r,hr⟩:∃r,w1.heap.size=r:=⟨_,rfl⟩
 have HMO:Hid (Own (w1.alloc (.cells (Jq (YR n)).toArray 3)) r (.slice (some ⟨r,0,none⟩) n n) (YR n)):=Zh (by rw [←hr]; exact J9s n (by omega) w1);have HMB:Hid (Below r w1 (w1.alloc (.cells (Jq (YR n)).toArray 3))):=Zh (by rw [←hr]; exact zq w1 _);have HR:=Zh hr;simp only [hr];clear hr
 go_loopg [19] l.length (fun q i wr=>∃k:Nat,l.length-k≤q∧k≤l.length∧i=.int .i64 k∧Own wr r (.slice (some ⟨r,0,none⟩) n n) (Qv g (l.take k))∧Below r w1 wr)
 case atStart=>exact⟨0,by omega,by omega,rfl,by rw [List.take_zero,J1p,HN.out]; exact HMO.out,HMB.out⟩
 case round =>
  clear HMO HMB;obtain⟨k,hq,hk,rfl,ho,hb⟩:=hrel;have HO:=Zh ho;have HW:=Zh hb;have HX:=Zh (Zm HB.out (hb.mono (by rw [HR.out]; exact Nat.le_refl _)));clear ho hb
  by_cases hlt:k<l.length
  · have hk1:(k:Int)<(l.length:Int):=by omega
    have hlk:l[k]? = some l[k]:=by simp [hlt]
    obtain⟨b,o,rfl,x1⟩:=HL.out k l[k] hlk;have d1:=(HX.out.1.cell (block_lt_of_cell x1)).trans x1;generalize l[k]=x at *;have HLK:=Zh hlk;clear x1 hlk;obtain⟨c0,c1,c2,c3⟩:=HX.out.2.1
    by_cases hx:g.In x
    · have H3:=Zh (HI.out x hx);obtain⟨u0,u1⟩:=HS.out x hx;rw [u0] at H3;have HC:=Zh (J1q HLK.out hx);have HA:Hid ((Qv g (l.take k))[g.seg x]? = some (jc g (l.take k) (g.seg x):Int)):=Zh (YN u1);have hle:=Jd7 g (l.take k) (g.seg x);have hle2:(l.take k).length≤1000:=by simp; omega
      obtain⟨u,hu⟩:∃u,g.seg x=u:=⟨_,rfl⟩
      rw [hu] at H3 HC HA u1 hle;obtain⟨z,hz⟩:∃z,jc g (l.take k) u=z:=⟨_,rfl⟩
      rw [hz] at HC HA hle;rw [HN.out] at u1;generalize (x-4)%g.l=o2 at *;clear u0 hu hz hx
      go_wp2_with fail
      refine (H3.out _).mono ?_;rintro e w2 ⟨rfl,hb⟩;have HO2:=Zh (HO.below hb);have HW2:=Zh (HW.trans (hb.mono (by rw [←HR.out]; exact HW.size)));clear hb;obtain⟨q0,q1⟩:=HO2.cell HA.out
      go_wp2_with fail
      go_roundg (l.length-(k+1))
      case measure=>omega
      case rel=>exact⟨k+1,by omega,by omega,by go_num,by rw [HC.out]; exact HO2.set u _ (by rw [KM,HN.out]; exact u1),HW2.setCell (Nat.le_refl _) _⟩
    · have H3:=Zh (HU.out x hx);have HC:=Zh (J5c HLK.out hx);clear hx
      go_wp2_with fail
      refine (H3.out _).mono ?_;rintro e w2 ⟨rfl,hb⟩;have HO2:=Zh (HO.below hb);have HW2:=Zh (HW.trans (hb.mono (by rw [←HR.out]; exact HW.size)));clear hb
      go_wp2_with fail
      go_roundg (l.length-(k+1))
      case measure=>omega
      case rel=>exact⟨k+1,by omega,by omega,by go_num,by rw [HC.out]; exact HO2.out,HW2.out⟩
  · obtain rfl:k=l.length:=by omega
    have hk1:¬(l.length:Int)<(l.length:Int):=by omega
    have HT:Hid (l.take l.length=l):=Zh List.take_length;rw [HT.out] at HO
    go_wp2_with fail
    go_ret;exact⟨_,rfl,HO.mono (by rw [←HR.out]; exact HB.out.1.size),HX.out.1⟩
theorem count_any(g:Gm)(l:List Int)(hn:l.length≤1000)(sv:Value)(w:World)(hs:IntsAt w sv l) :
 Calls Tryz.prog 101 #[g.v,sv] w fun e w'=>∃rv,e=.returned rv∧Own w' w.heap.size rv (cts g l)∧Below w.heap.size w w':=by
 by_cases h:g.Ok
 · exact J5g g h l hn sv w hs
 · exact J9t g h l sv w
end Us
open Go.RowKit
variable {k:Nat} {l:List Int}
namespace Hs
open Go.RowKit Pl
open Go.RowKit
open Go.RowKit
def cnt(l:List Int):Nat:=(l.filter fun x=>x != 0).length
theorem Jfr(l:List Int):cnt l≤l.length:=List.length_filter_le _ _
theorem take_snoc{α:Type}{l:List α}{x:α}(h:l[k]? = some x):l.take (k+1)=l.take k++[x]:=by
 rw [List.take_add_one,h];rfl
theorem kO(l m:List Int):cnt (l++m)=cnt l+cnt m:=by simp [cnt]
theorem Jd9{x:Int}(h:l[k]? = some x)(hx:x≠0):cnt (l.take (k+1))=cnt (l.take k)+1:=by
 rw [take_snoc h,kO];simp [cnt,hx]
theorem Jfs(h:l[k]? = some 0):cnt (l.take (k+1))=cnt (l.take k):=by
 rw [take_snoc h,kO];simp [cnt]
theorem zr(l:List Int)(k:Nat):cnt (l.take k)≤k:=Nat.le_trans (Jfr _) (by simp; omega)
open Go.RowKit
theorem count_any(l:List Int)(hn:l.length≤1000)(sv:Value)(w:World)(h:IntsAt w sv l):Calls Tryz.prog 125 #[sv] w fun e w'=>e=.returned (.int .i64 (cnt l))∧w=w':=by
 obtain⟨a,cap,rfl,hc⟩:=h;have HC:=Zh hc;clear hc;go_enter Tryz.func125,Tryz.ntmps125
 go_wp2_with fail
 go_loopg [8,3] l.length (fun q i n wr=>∃k:Nat,l.length-k≤q∧k≤l.length∧i=.int .i64 k∧n=.int .i64 (cnt (l.take k))∧w=wr)
 case atStart=>exact⟨0,by omega,by omega,rfl,rfl,rfl⟩
 case round =>
  obtain⟨k,hg,hk,rfl,rfl,rfl⟩:=hrel;have hle:=zr l k
  by_cases hlt:k<l.length
  · have hlk:l[k]? = some l[k]:=by simp [hlt]
    obtain⟨b,o,rfl,c1⟩:=HC.out k l[k] hlk;generalize l[k]=x at *;have HL:=Zh hlk;clear hlk;have hk1:(k:Int)<(l.length:Int):=by omega
    by_cases hx:x=0
    · subst hx
      go_wp2_with fail
      go_roundg (l.length-(k+1))
      case measure=>omega
      case rel=>exact⟨k+1,by omega,by omega,by go_num,by rw [Jfs HL.out],rfl⟩
    · have e1:(x != 0)=true:=by simpa using hx
      have HX:=Zh hx;clear hx
      go_wp2_with fail
      go_roundg (l.length-(k+1))
      case measure=>omega
      case rel=>exact⟨k+1,by omega,by omega,by go_num,by rw [Jd9 HL.out HX.out]; go_num,rfl⟩
  · obtain rfl:k=l.length:=by omega
    have HT:Hid (l.take l.length=l):=Zh List.take_length
    go_wp2_with fail
    go_ret;exact⟨by rw [HT.out]; rfl,rfl⟩
end Hs
open Go.RowKit
variable {X:List (List Int)} {n:Nat} {p:Int}
def Qi(X:List (List Int))(g:Pl.Gm)(id p:Int):Option Bk :=
 if (4≤p∧p≤4+g.s*g.l-1)∧JP (X.getD p.toNat [])=true∧(Qc (X.getD p.toNat [])).kind≠3∧(Qc (X.getD p.toNat [])).id=id then some (Qc (X.getD p.toNat [])) else none
def Ju(X:List (List Int))(g:Pl.Gm)(id:Int):Nat→Int→Option (List (Int×Bk))
 | 0,h=>if h=1 then some [] else none
 | n+1,h=>if h=1 then some [] else match Qi X g id h with
  | none=>none
  | some b=>if b.kind=1 then some [(h,b)] else (Ju X g id n b.prev).map ((h,b)::·)
theorem YC{g:Pl.Gm}{id:Int}{b:Bk}(h:Qi X g id p=some b):(4≤p∧p≤4+g.s*g.l-1)∧b.good=true∧b.kind≠3∧b.id=id:=by
 unfold Qi at h;split at h
 · rename_i hc
   obtain⟨h1,h2,h3,h4⟩:=hc;cases h;refine⟨h1,?_,h3,h4⟩;have e:Qc (X.getD p.toNat [])=readOf (X.getD p.toNat []):=if_pos h2;rw [e];simp [JP] at h2;exact h2.1
 · cases h
theorem Qd(X:List (List Int))(g:Pl.Gm)(id:Int)(n:Nat):Ju X g id n 1=some []:=by cases n <;> simp [Ju]
theorem Qj{g:Pl.Gm}{id h:Int}{b:Bk}(h1:h≠1)(hb:Qi X g id h=some b):Ju X g id (n+1) h=if b.kind=1 then some [(h,b)] else (Ju X g id n b.prev).map ((h,b)::·):=by
 rw [Ju,if_neg h1,hb]
theorem XR{g:Pl.Gm}{id h:Int}(h1:h≠1)(hb:Qi X g id h=none):Ju X g id n h=none:=by
 cases n with
 | zero=>simp [Ju,h1]
 | succ n=>rw [Ju,if_neg h1,hb]
theorem jw{g:Pl.Gm}{id:Int}:∀{n:Nat} {h:Int} {l:List (Int×Bk)},Ju X g id n h=some l→Fo.JX id (l.map (·.2))=true∧l.length≤n
 | 0,h,l,e=>by
  unfold Ju at e;split at e
  · cases e;exact⟨rfl,Nat.le_refl _⟩
  · cases e
 | n+1,h,l,e=>by
  by_cases h1:h=1
  · subst h1;rw [Qd] at e;cases e;exact⟨rfl,Nat.zero_le _⟩
  · cases hb:Qi X g id h with
    | none=>rw [XR h1 hb] at e; cases e
    | some b =>
     obtain⟨-,hg,h3,hid⟩:=YC hb;rw [Qj h1 hb] at e
     by_cases hk:b.kind=1
     · rw [if_pos hk] at e;cases e;refine⟨?_,by simp⟩;simp [Fo.JX,Fo.okAt,hg,h3,hid,Bk.ends,hk]
     · rw [if_neg hk] at e;cases hc:Ju X g id n b.prev with
       | none=>rw [hc] at e; cases e
       | some l' =>
        rw [hc] at e;cases e;obtain⟨i1,i2⟩:=jw hc;refine⟨?_,by simp; omega⟩;have he:b.ends=l'.isEmpty:=by
         by_cases hp:b.prev=1
         · rw [hp,Qd] at hc;cases hc;simp [Bk.ends,hp]
         · have hl:l'≠[]:=fun e0=>by
            subst e0;cases n with
            | zero=>simp [Ju,hp] at hc
            | succ n =>
             cases hb2:Qi X g id b.prev with
             | none=>rw [XR hp hb2] at hc; cases hc
             | some c =>
              rw [Qj hp hb2] at hc;split at hc
              · cases hc
              · cases hd:Ju X g id n c.prev with
                | none=>rw [hd] at hc; cases hc
                | some l2=>rw [hd] at hc; cases hc
           have:l'.isEmpty=false:=by cases l' with
            | nil=>exact absurd rfl hl
            | cons=>rfl
           rw [this];simp [Bk.ends,hk,hp]
        simp only [List.map_cons,Fo.JX,Fo.okAt,hg,hid,he,Bool.and_eq_true,i1,and_true];simp [h3]
theorem xP{id:Int}{b:Bk}{r:List Bk}(h:Fo.JX id (b::r)=true):b.id=id:=by
 simp [Fo.JX,Fo.okAt] at h;exact h.1.1.2
theorem Xx{g:Pl.Gm}{id h:Int}{l:List (Int×Bk)}(e:Ju X g id 3 h=some l):Fo.jG (l.map (·.2))=Fo.KZ (l.map (·.2))∧Fo.ja (l.map (·.2))=0:=by
 obtain⟨h1,h2⟩:=jw e;have hc:Fo.JB (l.map (·.2))=true:=by
  cases l with
  | nil=>rfl
  | cons p r =>
   have hi:=xP h1;simp only [List.map_cons] at h1 ⊢;simp only [Fo.JB];rw [hi,h1];simp;simpa using h2
 unfold Fo.jG Fo.ja;rw [if_pos hc,if_pos hc];exact⟨rfl,rfl⟩
open Go.RowKit
def ItIn(S:List (List Int))(x:It)(q:Int):Prop:=(x.has=true→∃(k:Nat) (m:Int),(0≤m∧m<4294967296)∧q=(k:Int)∧S[k]? = some (x.blk.sec m))∧(x.has=false→q=-1)
theorem ItIn.more{S:List (List Int)}{x:It}{q:Int}(h:ItIn S x q)(T:List (List Int)):ItIn (S++T) x q :=
 ⟨fun hx=>by
  obtain⟨k,m,hm,e,hk⟩:=h.1 hx
  have:=(List.getElem?_eq_some_iff.1 hk).1
  exact⟨k,m,hm,e,by rw [List.getElem?_append_left this]; exact hk⟩,h.2⟩
theorem xQ(n:Int)(hn:0≤n∧n<4294967296):∀(p:List It) (S:List (List Int)) {i:Nat} {x:It},p[i]? = some x→∃q,(XL S.length p)[i]? = some q∧ItIn (S++Kk n p) x q
 | [],S,i,x,h=>by simp at h
 | y::r,S,i,x,h=>by
  cases hy:y.has with
  | true =>
   have eb:Kk n (y::r)=y.blk.sec n::Kk n r:=by simp [Kk,hy]
   have ea:XL S.length (y::r)=(S.length:Int)::XL (S.length+1) r:=by simp [XL,hy]
   rw [eb,ea];cases i with
   | zero =>
    simp at h;subst h;exact⟨_,rfl,⟨fun _=>⟨S.length,n,hn,rfl,by simp⟩,fun h=>(by rw [hy] at h; cases h)⟩⟩
   | succ i =>
    have:=xQ n hn r (S++[y.blk.sec n]) (i:=i) (x:=x) (by simpa using h);rw [List.length_append,List.length_singleton,List.append_assoc] at this;exact this
  | false =>
   have eb:Kk n (y::r)=Kk n r:=by simp [Kk,hy]
   have ea:XL S.length (y::r)=-1::XL S.length r:=by simp [XL,hy]
   rw [eb,ea];cases i with
   | zero =>
    simp at h;subst h;exact⟨_,rfl,⟨fun h=>(by rw [hy] at h; cases h),fun _=>rfl⟩⟩
   | succ i=>exact xQ n hn r S (i:=i) (x:=x) (by simpa using h)
theorem kP(n:Int)(l:List It):∀k,24*k<l.length+24→(Jt n l k).2.length=min (24*k) l.length∧∀{i:Nat} {x:It},l[i]? = some x→i<24*k→∃q,(Jt n l k).2[i]? = some q∧ItIn (Jt n l k).1 x q
 | 0,_=>⟨by simp [Jt],fun _ h=>by omega⟩
 | k+1,hk=>by
  obtain⟨i1,i2⟩:=kP n l k (by omega);have e:Jt n l (k+1)=((Jt n l k).1++[JJ ((n+k)%M32) (decide (24*k+24<l.length)) (Q7 l k)]++Kk ((n+k)%M32) (Q7 l k),(Jt n l k).2++XL ((Jt n l k).1.length+1) (Q7 l k)):=by
   rw [Jt,X8,X9];simp
  rw [e];have hc:(Q7 l k).length=min 24 (l.length-24*k):=by simp [Q7]
  refine⟨by simp only [List.length_append,Yk,i1,hc]; omega,fun {i x} hx hi=>?_⟩;have hil:i<l.length:=(List.getElem?_eq_some_iff.1 hx).1
  by_cases hlt:i<24*k
  · obtain⟨q,h1,h2⟩:=i2 hx hlt;have:=(List.getElem?_eq_some_iff.1 h1).1;exact⟨q,by rw [List.getElem?_append_left this]; exact h1,by rw [List.append_assoc]; exact h2.more _⟩
  · have hx':(Q7 l k)[i-24*k]? = some x:=by
     unfold Q7;rw [List.getElem?_take_of_lt (by omega),List.getElem?_drop,show 24*k+(i-24*k)=i by omega];exact hx
    obtain⟨q,h1,h2⟩:=xQ ((n+k)%M32) ⟨Int.emod_nonneg _ (by decide),Int.emod_lt_of_pos _ (by decide)⟩ (Q7 l k) ((Jt n l k).1++[JJ ((n+k)%M32) (decide (24*k+24<l.length)) (Q7 l k)]) hx';refine⟨q,?_,h2⟩;rw [List.getElem?_append_right (by omega),i1,show i-min (24*k) l.length=i-24*k by omega];simpa using h1
theorem Jda(n:Int)(l:List It){i:Nat}{x:It}(hx:l[i]? = some x):∃q,(Jd n l).2[i]? = some q∧ItIn (Jd n l).1 x q:=by
 have hi:i<l.length:=(List.getElem?_eq_some_iff.1 hx).1;exact (kP n l (parts l.length) (by unfold parts; omega)).2 hx (by unfold parts; omega)
theorem zt(n:Int)(l:List It):(Jd n l).2.length=l.length:=by
 have:=(kP n l (parts l.length) (by unfold parts; omega)).1;unfold Jd;rw [this];unfold parts;omega
def Stands(X:List (List Int))(g:Pl.Gm)(x:It)(p:Int):Prop:=(x.has=true→(4≤p∧p≤4+g.s*g.l-1)∧∃m,(0≤m∧m<4294967296)∧X[p.toNat]? = some (x.blk.sec m))∧(x.has=false→p=0)
theorem Rcd.stands{X:List (List Int)}{g:Pl.Gm}{a b:Ja}{P:List (List It×List Int)}(h:Rcd X g a P b):∀q∈P,q.1.length=q.2.length∧∀(i:Nat) (x:It),q.1[i]? = some x→∃p,q.2[i]? = some p∧Stands X g x p:=by
 induction h with
 | nil=>exact fun q hq=>by cases hq
 | @snoc P b b1 l hr hg hn hs hm hw hX hk ih =>
  intro q hq;rcases List.mem_append.1 hq with hq | hq
  · exact ih q hq
  · obtain rfl:=List.mem_singleton.1 hq;obtain⟨f,hf,hf4,hfn⟩:=hn.first;refine⟨by simp [pOf,zt],fun i x hx=>?_⟩;obtain⟨c,h1,h2⟩:=Jda b.seq l hx;refine⟨XE (J7 g b1) c,by simp [pOf,h1],fun hh=>?_,fun hh=>?_⟩
    · obtain⟨k,m,hm,rfl,hk2⟩:=h2.1 hh;have hkl:=(List.getElem?_eq_some_iff.1 hk2).1;have e:XE (J7 g b1) (k:Int)=((f+k:Nat):Int):=by unfold XE; rw [if_pos (by omega),hf]; omega
      rw [e];refine⟨⟨by omega,by omega⟩,m,hm,?_⟩;have:=hX k _ hk2;rw [hf] at this;rw [Int.toNat_natCast];simpa using this
    · rw [h2.2 hh];rfl
open Go.RowKit
theorem Stands.blk{X:List (List Int)}{g:Pl.Gm}{x:It}{p:Int}(h:Stands X g x p)(hx:x.has=true)(hg:x.blk.good=true)(hw:x.blk.Wf)(h3:x.blk.kind≠3):Qi X g x.blk.id p=some x.blk:=by
 obtain⟨hp,n,hn,hX⟩:=h.1 hx;have eX:X.getD p.toNat []=x.blk.enc n:=by rw [List.getD_eq_getElem?_getD,hX]; exact if_pos hg
 have hb:=jg hg hw n hn;have hd:Qc (x.blk.enc n)=x.blk:=by rw [(kn hb).1,(ki hg hw n hn).1]
 unfold Qi;rw [eX,hd,if_pos ⟨hp,hb,h3,rfl⟩]
open Go.RowKit
variable {X:List (List Int)} {p:Int}
def bAt(X:List (List Int))(g:Pl.Gm)(p:Int):Option Bk :=
 if (4≤p∧p≤4+g.s*g.l-1)∧JP (X.getD p.toNat [])=true then some (Qc (X.getD p.toNat [])) else none
theorem kQ(X:List (List Int))(g:Pl.Gm)(id p:Int):Qi X g id p=(bAt X g p).bind fun b=>if b.kind≠3∧b.id=id then some b else none:=by
 unfold Qi bAt
 by_cases h:(4≤p∧p≤4+g.s*g.l-1)∧JP (X.getD p.toNat [])=true
 · rw [if_pos h]
   by_cases k:(Qc (X.getD p.toNat [])).kind≠3∧(Qc (X.getD p.toNat [])).id=id
   · rw [if_pos ⟨h.1,h.2,k.1,k.2⟩];exact (if_pos k).symm
   · rw [if_neg fun c=>k ⟨c.2.2.1,c.2.2.2⟩];exact (if_neg k).symm
 · rw [if_neg h,if_neg fun c=>h ⟨c.1,c.2.1⟩];rfl
theorem J9u{g:Pl.Gm}{id:Int}(h:bAt X g p=none):Qi X g id p=none:=by rw [kQ,h]; rfl
theorem QQ{g:Pl.Gm}{id:Int}{b:Bk}(h:bAt X g p=some b)(h3:b.kind≠3)(hi:b.id=id):Qi X g id p=some b:=by rw [kQ,h]; exact if_pos ⟨h3,hi⟩
theorem qR{g:Pl.Gm}{id:Int}{b:Bk}(h:bAt X g p=some b)(hn:¬(b.kind≠3∧b.id=id)):Qi X g id p=none:=by rw [kQ,h]; exact if_neg hn
def QW(b:Bk):Int:=if b.kind=1 then 1 else b.prev
structure Fol (X:List (List Int)) (g:Pl.Gm) (id head:Int) (l:List (Int×Bk)) (h:Int):Prop where
 few:l.length≤3
 fro:Ju X g id 3 head=(Ju X g id (3-l.length) h).map (l++·)
 las:∀m p b,l=m++[(p,b)]→QW b=h
theorem Fol.start(X:List (List Int))(g:Pl.Gm)(id head:Int):Fol X g id head [] head :=
 ⟨by simp,by simp,fun m p b e=>by simp at e⟩
theorem Fol.next{g:Pl.Gm}{id head h:Int}{l:List (Int×Bk)}{b:Bk}(f:Fol X g id head l h)(h1:h≠1)(hl:l.length<3)(hb:Qi X g id h=some b):Fol X g id head (l++[(h,b)]) (QW b):=by
 refine⟨by simp; omega,?_,fun m p c e=>?_⟩
 · obtain⟨n,hn⟩:∃n,3-l.length=n+1:=⟨2-l.length,by omega⟩
   rw [f.fro,hn,Qj h1 hb,List.length_append,List.length_singleton,show 3-(l.length+1)=n by omega];unfold QW
   by_cases hk:b.kind=1
   · rw [if_pos hk,if_pos hk,Qd];simp
   · rw [if_neg hk,if_neg hk,Option.map_map];congr 1;funext x;simp
 · have:=List.append_inj_right' e rfl;simp at this;rw [←this.2]
theorem Fol.stop{g:Pl.Gm}{id head h:Int}{l:List (Int×Bk)}(f:Fol X g id head l h)(h1:h=1):Ju X g id 3 head=some l:=by
 rw [f.fro,h1,Qd];simp
theorem Fol.no{g:Pl.Gm}{id head h:Int}{l:List (Int×Bk)}(f:Fol X g id head l h)(h1:h≠1)(hb:Qi X g id h=none):Ju X g id 3 head=none:=by
 rw [f.fro,XR h1 hb];rfl
theorem Xn{id:Int}{b:Bk}:∀{l:List Bk},Fo.JX id (l++[b])=true→b.ends=true
 | [],h=>by
  simp [Fo.JX,Fo.okAt] at h;exact h.2
 | c::r,h=>by
  simp only [List.cons_append,Fo.JX,Bool.and_eq_true] at h;exact Xn h.2
theorem Fol.over{g:Pl.Gm}{id head h:Int}{l:List (Int×Bk)}(f:Fol X g id head l h)(h1:h≠1)(hl:l.length=3):Ju X g id 3 head=none∧Fo.JB (l.map (·.2))=false:=by
 constructor
 · rw [f.fro,hl];simp [Ju,h1]
 · cases hc:Fo.JB (l.map (·.2)) with
   | false=>rfl
   | true =>
    exfalso;obtain⟨m,q,rfl⟩:∃m q,l=m++[q]:=⟨_,_,(List.dropLast_concat_getLast (List.ne_nil_of_length_pos (by omega))).symm⟩
    have hx:=f.las m q.1 q.2 rfl;have he:q.2.ends=true:=by
     rw [List.map_append] at hc;simp only [List.map_cons,List.map_nil] at hc;cases hm:m.map (·.2) with
     | nil=>rw [hm] at hc; simp [Fo.JB] at hc; exact Xn (l:=[]) hc
     | cons c r =>
      rw [hm] at hc;simp only [List.cons_append,Fo.JB,Bool.and_eq_true] at hc;exact Xn (l:=c::r) hc.2
    unfold QW at hx;unfold Bk.ends at he
    by_cases hk:q.2.kind=1
    · rw [if_pos hk] at hx;exact h1 hx.symm
    · rw [if_neg hk] at hx;simp [hk] at he;exact h1 (hx.symm.trans he)
def JV(X:List (List Int))(g:Pl.Gm):Int→List Int→Option (List Int)
 | _,[]=>some []
 | k,h::r=>if h=0 then JV X g (k+1) r else match Ju X g k 3 h with
  | none=>none
  | some l=>(JV X g (k+1) r).map (l.map (·.1)++·)
theorem Ku{g:Pl.Gm}{k h:Int}{r:List Int}(h0:h=0):JV X g k (h::r)=JV X g (k+1) r:=if_pos h0
theorem Xy{g:Pl.Gm}{k h:Int}{r:List Int}{l:List (Int×Bk)}(h0:h≠0)(hc:Ju X g k 3 h=some l):JV X g k (h::r)=(JV X g (k+1) r).map (l.map (·.1)++·):=by
 rw [JV,if_neg h0,hc]
theorem kR{g:Pl.Gm}{k h:Int}{r:List Int}(h0:h≠0)(hc:Ju X g k 3 h=none):JV X g k (h::r)=none:=by
 rw [JV,if_neg h0,hc]
def Q4(R:List Int):List Int:=R.filter (·≠0)
def Ye(X:List (List Int))(g:Pl.Gm)(H R:List Int):Option (List Int):=(JV X g 0 H).map (·++Q4 R)
def J5h(g:Pl.Gm)(seg off p:Int):Prop:=¬((p-4)/g.l=seg∧off≤(p-4)%g.l)
instance (g:Pl.Gm) (seg off p:Int):Decidable (J5h g seg off p):=by unfold J5h; infer_instance
def QG(X:List (List Int))(g:Pl.Gm)(H R:List Int)(seg off cap:Int):Option (List Int) :=
 if cap<(H.filter fun x=>x != 0).length then none else match Ye X g H R with
 | none=>none
 | some l=>if l.Nodup∧∀p∈l,J5h g seg off p then some l else none
theorem XH{g:Pl.Gm}{id:Int}:∀{n:Nat} {h:Int} {l:List (Int×Bk)},Ju X g id n h=some l→l.length≤n∧∀q∈l,4≤q.1∧q.1≤4+g.s*g.l-1
 | 0,h,l,e=>by
  unfold Ju at e;split at e
  · cases e;exact⟨Nat.le_refl _,fun q hq=>by cases hq⟩
  · cases e
 | n+1,h,l,e=>by
  by_cases h1:h=1
  · subst h1;rw [Qd] at e;cases e;exact⟨Nat.zero_le _,fun q hq=>by cases hq⟩
  · cases hb:Qi X g id h with
    | none=>rw [XR h1 hb] at e; cases e
    | some b =>
     have hp:=(YC hb).1;rw [Qj h1 hb] at e;split at e
     · cases e;exact⟨by simp,fun q hq=>by obtain rfl:=List.mem_singleton.1 hq; exact hp⟩
     · cases hc:Ju X g id n b.prev with
       | none=>rw [hc] at e; cases e
       | some l' =>
        rw [hc] at e;cases e;obtain⟨i1,i2⟩:=XH hc;refine⟨by simp; omega,fun q hq=>?_⟩;rcases List.mem_cons.1 hq with rfl | hq
        · exact hp
        · exact i2 q hq
theorem Zc{g:Pl.Gm}:∀{H:List Int} {k:Int} {l:List Int},JV X g k H=some l→l.length≤3*H.length∧∀p∈l,4≤p∧p≤4+g.s*g.l-1
 | [],k,l,e=>by
  cases e;exact⟨by simp,fun p hp=>by cases hp⟩
 | h::r,k,l,e=>by
  by_cases h0:h=0
  · rw [Ku h0] at e;obtain⟨i1,i2⟩:=Zc e;exact⟨by simp; omega,i2⟩
  · cases hc:Ju X g k 3 h with
    | none=>rw [kR h0 hc] at e; cases e
    | some c =>
     rw [Xy h0 hc] at e;cases hr:JV X g (k+1) r with
     | none=>rw [hr] at e; cases e
     | some l' =>
      rw [hr] at e;cases e;obtain⟨i1,i2⟩:=Zc hr;obtain⟨j1,j2⟩:=XH hc;refine⟨by simp; omega,fun p hp=>?_⟩;rcases List.mem_append.1 hp with hp | hp
      · obtain⟨q,hq,rfl⟩:=List.mem_map.1 hp;exact j2 q hq
      · exact i2 p hp
theorem YO(hX:∀y∈X,Sc y){g:Pl.Gm}{id:Int}:∀{n:Nat} {h:Int} {l:List (Int×Bk)},Ju X g id n h=some l→∀b∈l.map (·.2),b.Wf
 | 0,h,l,e=>by
  unfold Ju at e;split at e
  · cases e;exact fun b hb=>by cases hb
  · cases e
 | n+1,h,l,e=>by
  by_cases h1:h=1
  · subst h1;rw [Qd] at e;cases e;exact fun b hb=>by cases hb
  · cases hb:Qi X g id h with
    | none=>rw [XR h1 hb] at e; cases e
    | some b =>
     have hw:b.Wf:=by
      have hp:=(YC hb).1;unfold Qi at hb;split at hb
      · cases hb;unfold Qc;split
        · rename_i h2 h3
          refine readOf_wf (hX _ ?_);rw [List.getD_eq_getElem?_getD];cases hq:X[h.toNat]? with
          | none=>rw [List.getD_eq_getElem?_getD,hq] at h3; exact absurd h3 (by decide)
          | some y=>exact List.mem_of_getElem? hq
        · exact none_wf
      · cases hb
     rw [Qj h1 hb] at e;split at e
     · cases e;intro c hc;simp at hc;subst hc;exact hw
     · cases hc:Ju X g id n b.prev with
       | none=>rw [hc] at e; cases e
       | some l' =>
        rw [hc] at e;cases e;intro c hc2;rcases List.mem_cons.1 hc2 with rfl | hc2
        · exact hw
        · exact YO hX hc c hc2
end Go.Proofs.YtdbfmikeaoaebaaGreatDoor
