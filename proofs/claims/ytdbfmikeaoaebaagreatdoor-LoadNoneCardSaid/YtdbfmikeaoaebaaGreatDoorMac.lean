/- Steps. -/
import Derived.Test.YtdbfmikeaoaebaaGreatDoorMab
import Derived.Lib.EndianBits
import Derived.OrdersHeld
import Derived.Deep.Upon
import Derived.Lib.AppendZeros
import Derived.Deep.Cut
import Derived.Deep.CutRange
set_option linter.unusedSimpArgs false
set_option linter.unusedVariables false
set_option maxRecDepth 100000
set_option maxHeartbeats 4000000
namespace Go.Proofs.YtdbfmikeaoaebaaGreatDoor
open Go.RowKit
variable {B b cap g i k m n:Nat} {L:List Value} {W w w':World} {sv v:Value}
abbrev Mk:=Int×Int
structure Sm where
 seq:Int
 more:Bool
 marks:List Mk
structure Sm.Wf (s:Sm):Prop where
 seq:0≤s.seq∧s.seq<4294967296
 marks:∀m∈s.marks,Jo m.1∧Jo m.2
theorem Kv(n:Nat):∀x∈zeros n,KO x:=fun x hx=>by
 rw [List.eq_of_mem_replicate hx];exact⟨by decide,by decide⟩
def kindIds(n:Int):Int:=if n=3 then 8 else if 1≤n∧n≤5 then 64 else 0
def JA(n:Int):Bool:=decide (1≤n)&&decide (n≤3)
def Kc(m:Mk):Bool:=decide (0≤m.2)&&decide (m.2<kindIds m.1)
def Jy:List Mk→Nat
 | []=>0
 | m::l=>(if JA m.1 then 1 else 0)+Jy l
def Jv(l:List Mk):Bool:=decide (1≤l.length)&&decide (l.length≤24)&&l.all Kc
def Sm.good(s:Sm):Bool:=Jv s.marks
theorem KH{m:Mk}:Kc m=true↔(1≤m.1∧m.1≤5∧0≤m.2∧m.2<64∧(m.1=3→m.2<8)):=by
 have hk:kindIds m.1=if m.1=3 then 8 else if 1≤m.1∧m.1≤5 then 64 else 0:=rfl
 unfold Kc;generalize kindIds m.1=n at *;simp only [Bool.and_eq_true,decide_eq_true_eq];split at hk
 · omega
 · split at hk <;> omega
theorem X4(l:List Mk):Jy l≤l.length:=by
 induction l with
 | nil=>simp [Jy]
 | cons m l ih =>
  simp only [Jy,List.length_cons];split <;> omega
theorem YT(l m:List Mk):Jy (l++m)=Jy l+Jy m:=by
 induction l with
 | nil=>simp [Jy]
 | cons x l ih =>
  simp only [List.cons_append,Jy,ih];omega
def flat:List Mk→List Int
 | []=>[]
 | m::l=>m.1::m.2::flat l
theorem K7(l:List Mk):(flat l).length=2*l.length:=by
 induction l with
 | nil=>rfl
 | cons m l ih=>simp only [flat,List.length_cons,ih]; omega
theorem Yh(l m:List Mk):flat (l++m)=flat l++flat m:=by
 induction l with
 | nil=>rfl
 | cons x l ih=>simp [flat,ih]
theorem ka(l:List Mk)(i:Nat):(flat l)[2*i]? = l[i]?.map Prod.fst:=by
 induction l generalizing i with
 | nil=>simp [flat]
 | cons m l ih =>
  cases i with
  | zero=>simp [flat]
  | succ i =>
   rw [show 2*(i+1)=2*i+1+1 by omega];simp only [flat,List.getElem?_cons_succ,ih]
theorem kc(l:List Mk)(i:Nat):(flat l)[2*i+1]? = l[i]?.map Prod.snd:=by
 induction l generalizing i with
 | nil=>simp [flat]
 | cons m l ih =>
  cases i with
  | zero=>simp [flat]
  | succ i =>
   rw [show 2*(i+1)+1=2*i+1+1+1 by omega];simp only [flat,List.getElem?_cons_succ,ih]
theorem J3e{l:List Mk}{m:Mk}(h:l[k]? = some m):flat (l.take (k+1))=flat (l.take k)++[m.1,m.2]:=by
 rw [List.take_add_one,h,Yh];simp [flat]
def bit(b:Bool):Int:=if b then 1 else 0
theorem J3f(b:Bool):0≤bit b∧bit b≤1:=by cases b <;> simp [bit]
def Sm.pre(s:Sm):List Int:=83::bit s.more::(le 4 s.seq++[(s.marks.length:Int)])
theorem Qz(s:Sm):s.pre.length=7:=by simp [Sm.pre,J6]
def Sm.enc(s:Sm):List Int:=s.pre++(flat s.marks++zeros (57-2*s.marks.length))
def Sm.sec(s:Sm):List Int:=if s.good then s.enc else zeros 64
def Sm.err(s:Sm):Int:=if s.good then 0 else 11
def Sm.none:Sm:=⟨0,false,[]⟩
theorem QL{l:List Mk}(h:Jv l=true):1≤l.length∧l.length≤24:=by
 simp only [Jv,Bool.and_eq_true,decide_eq_true_eq] at h;exact h.1
theorem qZ{l:List Mk}(h:Jv l=true):∀m∈l,Kc m=true:=by
 simp only [Jv,Bool.and_eq_true,List.all_eq_true] at h;exact h.2
theorem ZQ{l:List Mk}(h:Jv l=true):∀m∈l,KO m.1∧KO m.2:=fun m hm=>by
 have:=KH.1 (qZ h m hm);exact⟨⟨by omega,by omega⟩,⟨by omega,by omega⟩⟩
theorem J3g{l:List Mk}(h:∀m∈l,KO m.1∧KO m.2):∀x∈flat l,KO x:=by
 induction l with
 | nil=>intro x hx; cases hx
 | cons m l ih =>
  intro x hx;simp only [flat,List.mem_cons] at hx;rcases hx with rfl | rfl | hx
  · exact (h m (by simp)).1
  · exact (h m (by simp)).2
  · exact ih (fun y hy=>h y (by simp [hy])) x hx
theorem Xs{s:Sm}(h:s.good=true):s.enc.length=64:=by
 have:=QL h;simp only [Sm.enc,List.length_append,Qz,K7,J1];omega
theorem Yi(s:Sm):s.sec.length=64:=by
 unfold Sm.sec;split
 · exact Xs ‹_›
 · exact J1 _
theorem J3h{s:Sm}(h:s.good=true):∀x∈s.enc,KO x:=by
 have hl:=QL h;have hb:=J3f s.more;intro x hx;simp only [Sm.enc,Sm.pre,List.mem_append,List.mem_cons,List.not_mem_nil,or_false,List.cons_append] at hx;rcases hx with rfl | rfl | (hx | rfl) | hx | hx
 · exact⟨by decide,by decide⟩
 · exact⟨hb.1,by omega⟩
 · exact YF _ _ x hx
 · exact⟨by omega,by omega⟩
 · exact J3g (ZQ h) x hx
 · exact Kv _ x hx
theorem Jau{s:Sm}(h:s.good=true):Sc s.enc:=⟨Xs h,J3h h⟩
theorem J6a(s:Sm):Sc s.sec:=by
 unfold Sm.sec;split
 · exact Jau ‹_›
 · exact⟨J1 _,Kv _⟩
def MarksAt(w:World)(sv:Value)(l:List Mk):Prop:=∃a cap,sv=.slice a l.length cap∧∀i m,l[i]? = some m→∃b o,a=some ⟨b,o,none⟩∧w.cell? ⟨b,o+i*2,none⟩=some (.int .i64 m.1)∧w.cell? ⟨b,o+i*2+1,none⟩=some (.int .i64 m.2)
theorem MarksAt.below{l:List Mk}(h:MarksAt w sv l)(hb:Below w.heap.size w w'):MarksAt w' sv l:=by
 obtain⟨a,cap,e,hc⟩:=h;refine⟨a,cap,e,fun i x hx=>?_⟩;obtain⟨b,o,e2,h1,h2⟩:=hc i x hx;exact⟨b,o,e2,(hb.cell (block_lt_of_cell h1)).trans h1,(hb.cell (block_lt_of_cell h2)).trans h2⟩
theorem MarksAt.nil(w:World)(cap:Nat)(a:Option Addr):MarksAt w (.slice a 0 cap) []:=⟨a,cap,rfl,fun i x h=>by simp at h⟩
theorem MarksAt.has{l:List Mk}(h:MarksAt w sv l)(hl:0<l.length):∃b o cap,sv=.slice (some ⟨b,o,none⟩) l.length cap∧∀i m,l[i]? = some m→w.cell? ⟨b,o+i*2,none⟩=some (.int .i64 m.1)∧w.cell? ⟨b,o+i*2+1,none⟩=some (.int .i64 m.2):=by
 obtain⟨a,cap,e,hc⟩:=h;obtain⟨b,o,e2,_⟩:=hc 0 l[0] (by simp [hl]);subst e2;refine⟨b,o,cap,e,fun i x hx=>?_⟩;obtain⟨b',o',e3,hx2⟩:=hc i x hx;cases e3;exact hx2
theorem kd(n:Int)(w:World):Calls Tryz.prog 186 #[.int .i64 n] w fun e w'=>e=.returned (.tuple #[.int .i64 (kindIds n),.bool (JA n)])∧w=w':=by
 by_cases h3:n=3
 · subst h3;go_enter Tryz.func186,Tryz.ntmps186
   go_wp2_with fail
   go_ret2;exact⟨rfl,rfl⟩
 · by_cases h1:n=1
   · subst h1;go_enter Tryz.func186,Tryz.ntmps186
     go_wp2_with fail
     go_ret2;exact⟨rfl,rfl⟩
   · by_cases h2:n=2
     · subst h2;go_enter Tryz.func186,Tryz.ntmps186
       go_wp2_with fail
       go_ret2;exact⟨rfl,rfl⟩
     · by_cases h4:n=4
       · subst h4;go_enter Tryz.func186,Tryz.ntmps186
         go_wp2_with fail
         go_ret2;exact⟨rfl,rfl⟩
       · by_cases h5:n=5
         · subst h5;go_enter Tryz.func186,Tryz.ntmps186
           go_wp2_with fail
           go_ret2;exact⟨rfl,rfl⟩
         · have e1:kindIds n=0:=by unfold kindIds; rw [if_neg h3,if_neg (by omega)]
           have e2:JA n=false:=by unfold JA; rw [Bool.and_eq_false_iff,decide_eq_false_iff_not,decide_eq_false_iff_not]; omega
           rw [e1,e2];clear e1 e2;go_enter Tryz.func186,Tryz.ntmps186
           go_wp2_with fail
           go_ret2;exact⟨rfl,rfl⟩
theorem zT{l:List Mk}(h:l.length<1):Jv l=false:=by unfold Jv; rw [decide_eq_false (by omega)]; rfl
theorem J3i{l:List Mk}(h:24<l.length):Jv l=false:=by unfold Jv; rw [decide_eq_false (p:=l.length≤24) (by omega)]; simp
theorem y9{l:List Mk}{m:Mk}(hk:l[k]? = some m)(h:Kc m=false):Jv l=false:=by
 cases e:Jv l with
 | false=>rfl
 | true =>
  have:=qZ e m (List.mem_of_getElem? hk);rw [h] at this;cases this
theorem good_all{l:List Mk}(h1:1≤l.length)(h2:l.length≤24)(h:∀k m,l[k]? = some m→k<l.length→Kc m=true):Jv l=true:=by
 unfold Jv;rw [decide_eq_true h1,decide_eq_true h2,Bool.true_and,Bool.true_and,List.all_eq_true];intro m hm;obtain⟨k,hk,rfl⟩:=List.mem_iff_getElem.1 hm;exact h k _ (by simp [hk]) hk
theorem XV(sv:Value)(l:List Mk)(hl:l.length≤1000000)(w:World)(h:MarksAt w sv l):Calls Tryz.prog 179 #[sv] w (Zr w (.bool (Jv l))):=by
 obtain⟨a,cap,rfl,hc⟩:=id h;have HC:=Zh hc;clear h hc
 by_cases hs1:l.length<1
 · have HG:=Zh (zT hs1);go_enter Tryz.func179,Tryz.ntmps179
   go_wp2_with fail
   go_ret;exact⟨by first | (rw [HG.out]; done) | (rw [HG.out]; rfl),Below.refl _ _⟩
 by_cases hs2:24<l.length
 · have HG:=Zh (J3i hs2);go_enter Tryz.func179,Tryz.ntmps179
   go_wp2_with fail
   go_ret;exact⟨by first | (rw [HG.out]; done) | (rw [HG.out]; rfl),Below.refl _ _⟩
 go_enter Tryz.func179,Tryz.ntmps179
 go_wp2_with fail
 go_loopg [17] l.length (fun q i wr=>∃k:Nat,l.length-k≤q∧k≤l.length∧i=.int .i64 k∧(∀j m,l[j]? = some m→j<k→Kc m=true)∧Below w.heap.size w wr)
 case atStart=>exact⟨0,by omega,by omega,rfl,fun j m _ h=>by omega,Below.refl _ _⟩
 case round =>
  obtain⟨k,hg,hk,rfl,hall,hbel⟩:=hrel;have HB:=Zh hbel;have HA:=Zh hall;clear hbel hall
  by_cases hlt:k<l.length
  · have hlk:l[k]? = some l[k]:=by simp [hlt]
    obtain⟨b,o,rfl,h1,h2⟩:=HC.out k l[k] hlk;have c1:=(HB.cell (block_lt_of_cell h1)).trans h1;have c2:=(HB.cell (block_lt_of_cell h2)).trans h2;clear h1 h2;generalize l[k]=m at *;obtain⟨mk,mi⟩:=m;have HLK:=Zh hlk;clear hlk;simp only at c1 c2;have hk0:(0:Int)≤(k:Int):=by omega
    have hk1:(k:Int)<(l.length:Int):=by omega
    have HK:=Zh fun w=>kd mk w;obtain⟨ids,hids⟩:∃n,kindIds mk=n:=⟨_,rfl⟩
    rw [hids] at HK;have HI:=Zh hids;clear hids
    by_cases hm0:mi<0
    · have HG:=Zh (y9 (l:=l) HLK.out (show Kc (mk,mi)=false by unfold Kc; rw [decide_eq_false (by simp only; omega)]; rfl))
      go_wp2_with fail
      refine (HK.out _).mono ?_;rintro e w1 ⟨rfl,rfl⟩
      go_wp2_with fail
      go_ret;exact⟨by first | (rw [HG.out]; done) | (rw [HG.out]; rfl),HB.alloc HB.size _⟩
    · by_cases hm1:ids≤mi
      · have HG:=Zh (y9 (l:=l) HLK.out (show Kc (mk,mi)=false by unfold Kc; rw [HI.out,decide_eq_false (p:=mi<ids) (by omega)]; simp))
        go_wp2_with fail
        refine (HK.out _).mono ?_;rintro e w1 ⟨rfl,rfl⟩
        go_wp2_with fail
        go_ret;exact⟨by first | (rw [HG.out]; done) | (rw [HG.out]; rfl),HB.alloc HB.size _⟩
      · have HO:=Zh (show Kc (mk,mi)=true by unfold Kc; rw [HI.out,decide_eq_true (p:=mi<ids) (by omega),decide_eq_true (by simp only; omega)]; rfl)
        go_wp2_with fail
        refine (HK.out _).mono ?_;rintro e w1 ⟨rfl,rfl⟩
        go_wp2_with fail
        go_roundg (l.length-(k+1))
        case measure=>omega
        case rel =>
         refine⟨k+1,by omega,by omega,by go_num,fun j m hj hjk=>?_,HB.alloc HB.size _⟩
         by_cases e:j=k
         · subst e;rw [HLK.out] at hj;cases hj;exact HO.out
         · exact HA.out j m hj (by omega)
  · have hkl:k=l.length:=by omega
    subst hkl;have HG:=Zh (good_all (l:=l) (by omega) (by omega) HA.out);clear hlt
    go_wp2_with fail
    go_ret;exact⟨by first | (rw [HG.out]; done) | (rw [HG.out]; rfl),HB.out⟩
abbrev Sm.cells(s:Sm)(sv:Value):List Value:=[.int .u32 s.seq,.bool s.more,sv]
structure sES (W w:World) (g r:Nat) (s:Sm) (sv:Value):Prop where
 sm:Blk w g (s.cells sv)
 res:Blk w r (u8s (zeros 64))
 bel:Below W.heap.size W w
 g0:W.heap.size≤g
 gr:g<r
theorem sES.below{r:Nat}{s:Sm}(h:sES W w g r s sv)(hb:Below w.heap.size w w'):sES W w' g r s sv :=
 ⟨h.sm.below hb h.sm.lt,h.res.below hb h.res.lt,h.bel.trans (hb.mono h.bel.size),h.g0,h.gr⟩
structure sET (W w:World) (g r x:Nat) (s:Sm) (sv:Value) (L:List Int):Prop where
 es:sES W w g r s sv
 sec:Blk w x (u8s L)
 rx:r<x
theorem sET.below{r x:Nat}{s:Sm}{L:List Int}(h:sET W w g r x s sv L)(hb:Below w.heap.size w w'):sET W w' g r x s sv L :=
 ⟨h.es.below hb,h.sec.below hb h.sec.lt,h.rx⟩
theorem sET.drew{r x:Nat}{s:Sm}{L:List Int}(h:sET W w g r x s sv L):sET W w.drew g r x s sv L:=h.below (Below.refl _ _).drew
theorem sET.alloc{r x:Nat}{s:Sm}{L:List Int}(h:sET W w g r x s sv L)(o:Obj):sET W (w.alloc o) g r x s sv L:=h.below ((Below.refl _ _).alloc (Nat.le_refl _) _)
theorem sET.put{r x:Nat}{s:Sm}{L M:List Int}(h:sET W w g r x s sv L)(hs:Blk w' x (u8s M))(ho:Only (fun k=>k=x) w w'):sET W w' g r x s sv M :=
 ⟨⟨h.es.sm.only ho (by have:=h.rx; have:=h.es.gr; omega),h.es.res.only ho (by have:=h.rx; omega),h.es.bel.trans (ho.below h.es.bel.size (fun k hk=>by have:=h.es.g0; have:=h.es.gr; have:=h.rx; omega)),h.es.g0,h.es.gr⟩,hs,h.rx⟩
theorem sET.set{r x:Nat}{s:Sm}{L:List Int}(h:sET W w g r x s sv L)(i:Nat)(v:Int):sET W (w.setCell ⟨x,i,none⟩ (.int .u8 v)) g r x s sv (L.set i v) :=
 h.put (by have:=h.sec.set i (.int .u8 v); rwa [←List.map_set] at this) ((Only.refl (fun k=>k=x) w).setCell (p:=⟨x,i,none⟩) (.inl rfl) _)
theorem Qm{L:List Int}(h:i<L.length):(u8s L)[i]? = some (.int .u8 (L.getD i 0)):=by
 rw [List.getElem?_map,List.getD_eq_getElem?_getD,List.getElem?_eq_getElem h];rfl
def YP(s:Sm)(k:Nat):List Int:=83::bit s.more::((le 4 s.seq).take k++zeros (62-k))
def qd(s:Sm)(k:Nat):List Int:=s.pre++(flat (s.marks.take k)++zeros (57-2*k))
theorem Ki(s:Sm)(k:Nat)(h:k≤4):(YP s k).length=64:=by
 simp only [YP,List.length_cons,List.length_append,List.length_take,J6,J1];omega
theorem J6b(s:Sm):YP s 0=83::bit s.more::zeros 62:=rfl
theorem J6c(s:Sm):(YP s 0).set 2 (s.seq%256)=YP s 1:=rfl
theorem J6d(s:Sm):(YP s 1).set 3 (s.seq/256%256)=YP s 2:=rfl
theorem J6e(s:Sm):(YP s 2).set 4 (s.seq/65536%256)=YP s 3:=by
 rw [show s.seq/65536=s.seq/256/256 by omega]; rfl
theorem J6f(s:Sm):(YP s 3).set 5 (s.seq/16777216%256)=YP s 4:=by
 rw [show s.seq/16777216=s.seq/256/256/256 by omega]; rfl
theorem J6g(s:Sm):(YP s 4).set 6 (s.marks.length:Int)=qd s 0:=rfl
theorem Xt(s:Sm)(k:Nat)(hk:k≤s.marks.length)(h:k≤24):(qd s k).length=64:=by
 simp only [qd,List.length_append,Qz,K7,List.length_take,J1];omega
theorem ya(s:Sm):qd s s.marks.length=s.enc:=by simp [qd,Sm.enc]
theorem J27(s:Sm)(X:List Int)(j:Nat)(v:Int):(s.pre++X).set (7+j) v=s.pre++X.set j v:=by
 rw [List.set_append_right _ _ (by rw [Qz]; omega),Qz,show 7+j-7=j by omega]
theorem qs{s:Sm}{m:Mk}(hm:s.marks[k]? = some m)(h:k<24):((qd s k).set (7+k*2) m.1).set (7+k*2+1) m.2=qd s (k+1):=by
 have hk:k<s.marks.length:=(List.getElem?_eq_some_iff.1 hm).1;have hz:zeros (57-2*k)=0::0::zeros (57-2*(k+1)):=by
  rw [show 57-2*k=(57-2*(k+1))+1+1 by omega];rfl
 have hf:(flat (s.marks.take k)).length=2*k:=by rw [K7,List.length_take]; omega
 unfold qd;rw [hz,J3e hm,J27,show 7+k*2+1=7+(k*2+1) by omega,J27];congr 1;rw [List.set_append_right _ _ (by omega),List.set_append_right _ _ (by omega),hf,show k*2-2*k=0 by omega,show k*2+1-2*k=1 by omega];simp
theorem J6h:Tryz.prog.built 36 [(0,.int .u8 83)]=some (u8s (83::zeros 63)).toArray:=by kernel_rfl
theorem yb(w:World):(Instr.build 36 #[(0,.int .u8 83)]).run Tryz.prog w=.ok (.agg (u8s (83::zeros 63)).toArray) w:=run_build w 36 _ _ J6h
theorem zU(s:Sm)(sv:Value)(hl:s.marks.length≤1000000)(w:World)(h:MarksAt w sv s.marks)(hg:s.good=false):Calls Tryz.prog 160 #[.agg #[.int .u32 s.seq,.bool s.more,sv]] w (Zr w (.tuple #[.agg (u8s (zeros 64)).toArray,.int .i64 11])):=by
 have HM:=Zh h;have HG:=Zh hg;clear h hg;go_enter Tryz.func160,Tryz.ntmps160
 repeat (first | (with_reducible refine JL (id:=0) ?_) | go_values | go_skip | go_guarded | go_step | go_upon | go_back)
 refine Stop.mk (wp_region_lit ?_);refine JT rfl rfl ?_;intro wA hA hB hl1;refine nm ?_;refine J4 Ka rfl ?_;intro wB hR hB2 hl2;refine nm ?_;have H0:Hid (sES w wB w.heap.size wA.heap.size s sv):=Zh ⟨hA.below hB2 hl1,hR,hB.trans (hB2.mono hB.size),Nat.le_refl _,hl1⟩;have HM0:=Zh (HM.below H0.bel);have HG1:=Zh fun w' (h':MarksAt w' sv s.marks)=>XV sv s.marks hl w' h';clear hA hB hl1 hR hB2 hl2;generalize hgg:w.heap.size=g at *;generalize hrr:wA.heap.size=r at *;have HGG:=Zh hgg;clear hgg hrr wA;refine tk (.int .i64 0) ?_;refine Zn ?_;have c2:=H0.sm.cell (i:=2) rfl
 go_wp2_with fail
 refine (HG1.out _ HM0.out).mono ?_;rintro e w1 ⟨rfl,hb⟩;have H1:=Zh (H0.below hb);have HM1:=Zh (HM0.below hb);clear hb H0 HM0 c2 HG1;rw [show Jv s.marks=false from HG.out];go_upto_region 2 with fail;refine Zl ?_;refine Je (build36 _) rfl ?_;refine nm ?_;refine J3 H1.res (by simp) (by simpa [zeros] using info36) (Ji _) rfl rfl rfl ?_;intro wZ hZ hOZ hlZ;refine nm ?_;refine tk (.int .i64 11) ?_;have HF:=Zh (H1.bel.trans (hOZ.below H1.bel.size (fun k hk=>by have:=H1.g0; have:=H1.gr; omega)));go_wp2_with fail
 refine bodyPost_ret (v:=.tuple #[.agg (u8s (zeros 64)).toArray,.int .i64 11]) (results_cell_tmp rfl _ _ r 0 _ _ _ rfl rfl Tryz.underlying36 rfl (by simpa [zeros] using info36) (hZ.all rfl)) rfl ⟨rfl,by first | exact HF.out | (rw [HGG.out]; exact HF.out)⟩
theorem jA(s:Sm)(sv:Value)(hmo:s.more=true)(hq:0≤s.seq∧s.seq<4294967296)(w:World)(h:MarksAt w sv s.marks)(hg:s.good=true):Calls Tryz.prog 160 #[.agg #[.int .u32 s.seq,.bool s.more,sv]] w (Zr w (.tuple #[.agg (u8s s.enc).toArray,.int .i64 0])):=by
 have HM:=Zh h;have HG:=Zh hg;obtain⟨hn1,hn2⟩:=QL hg;have hl:s.marks.length≤1000000:=by omega
 obtain⟨hq1,hq2⟩:=hq;obtain⟨a,o,cap,hsv,_⟩:=h.has (by omega);have HMO:=Zh hmo;have HSV:=Zh hsv;clear hg h hmo hsv;go_enter Tryz.func160,Tryz.ntmps160
 repeat (first | (with_reducible refine JL (id:=0) ?_) | go_values | go_skip | go_guarded | go_step | go_upon | go_back)
 refine Stop.mk (wp_region_lit ?_);refine JT rfl rfl ?_;intro wA hA hB hl1;refine nm ?_;refine J4 Ka rfl ?_;intro wB hR hB2 hl2;refine nm ?_;have H0:Hid (sES w wB w.heap.size wA.heap.size s sv):=Zh ⟨hA.below hB2 hl1,hR,hB.trans (hB2.mono hB.size),Nat.le_refl _,hl1⟩;have HM0:=Zh (HM.below H0.bel);have HG1:=Zh fun w' (h':MarksAt w' sv s.marks)=>XV sv s.marks hl w' h';clear hA hB hl1 hR hB2 hl2;generalize hgg:w.heap.size=g at *;generalize hrr:wA.heap.size=r at *;have HGG:=Zh hgg;clear hgg hrr wA;refine tk (.int .i64 0) ?_;refine Zn ?_;have c2:=H0.sm.cell (i:=2) rfl
 go_wp2_with fail
 refine (HG1.out _ HM0.out).mono ?_;rintro e w1 ⟨rfl,hb⟩;have H1:=Zh (H0.below hb);have HM1:=Zh (HM0.below hb);clear hb H0 HM0 c2 HG1;rw [show Jv s.marks=true from HG.out];go_upto_region 3 with fail;refine Zl ?_;refine tk (.agg (u8s (83::zeros 63)).toArray) ?_ (hr:=(Jc _ _ _ _ 36 #[(0,.const (.int .u8 83))] rfl #[(0,.int .u8 83)] (by simp only [List.map_toArray,List.map_cons,List.map_nil]; rfl) _ (yb _)));refine J4 Ka rfl ?_;intro wC hC hBC hlC;refine nm ?_;refine J3 hC (by simp [zeros]) (by simpa [zeros] using info36) (Ji _) rfl rfl rfl ?_;intro wD hD hOD hlD;refine nm ?_;have hBD:=hBC.trans (hOD.below hBC.size (fun k hk=>Nat.le_of_eq hk.symm));have H2:Hid (sET w wD g r w1.heap.size s sv (83::zeros 63)):=Zh (sET.mk (H1.below hBD) hD H1.res.lt);clear hC hBC hlC hD hOD hlD hBD HM1;generalize hss:w1.heap.size=x at *;clear hss;refine Zn ?_;have c1:=H2.es.sm.cell (i:=1) rfl;rw [HMO.out] at c1;have cb:=H2.sec.cell (i:=1) rfl;have hfro:=H2.sec.frozen 1
 go_wp2_with fail
 go_loopg [18] 4 (fun q i wr=>∃k:Nat,4-k≤q∧k≤4∧i=.int .i64 k∧sET w wr g r x s sv (YP s k))
 case atStart =>
  refine⟨0,by omega,by omega,rfl,?_⟩;have hs:=H2.set 1 1;rw [show (83::zeros 63:List Int).set 1 1=YP s 0 by rw [J6b,HMO.out]; rfl] at hs;exact hs
 case round =>
  obtain⟨k,hgk,hk,rfl,het⟩:=hrel;have HL:=Zh het;clear het;rcases (show k=0∨k=1∨k=2∨k=3∨k=4 by omega) with rfl | rfl | rfl | rfl | rfl
  · have c0:=HL.es.sm.cell (i:=0) rfl;have cx:=HL.sec.cell (i:=2) (Qm (by rw [Ki _ _ (by omega)]; omega));have hfro:=HL.sec.frozen 2
    go_wp2_with fail
    go_roundg (4-1)
    case measure=>omega
    case rel =>
     refine⟨1,by omega,by omega,by go_num,?_⟩;have hs:=HL.set 2 (s.seq%256);rw [J6c] at hs
     first | exact hs | simpa using hs | (rw [show s.seq/16777216%256=s.seq/16777216 by omega] at hs; exact hs)
  · have c0:=HL.es.sm.cell (i:=0) rfl;have cx:=HL.sec.cell (i:=3) (Qm (by rw [Ki _ _ (by omega)]; omega));have hfro:=HL.sec.frozen 3
    go_wp2_with fail
    go_roundg (4-2)
    case measure=>omega
    case rel =>
     refine⟨2,by omega,by omega,by go_num,?_⟩;have hs:=HL.set 3 (s.seq/256%256);rw [J6d] at hs
     first | exact hs | simpa using hs | (rw [show s.seq/16777216%256=s.seq/16777216 by omega] at hs; exact hs)
  · have c0:=HL.es.sm.cell (i:=0) rfl;have cx:=HL.sec.cell (i:=4) (Qm (by rw [Ki _ _ (by omega)]; omega));have hfro:=HL.sec.frozen 4
    go_wp2_with fail
    go_roundg (4-3)
    case measure=>omega
    case rel =>
     refine⟨3,by omega,by omega,by go_num,?_⟩;have hs:=HL.set 4 (s.seq/65536%256);rw [J6e] at hs
     first | exact hs | simpa using hs | (rw [show s.seq/16777216%256=s.seq/16777216 by omega] at hs; exact hs)
  · have c0:=HL.es.sm.cell (i:=0) rfl;have cx:=HL.sec.cell (i:=5) (Qm (by rw [Ki _ _ (by omega)]; omega));have hfro:=HL.sec.frozen 5
    go_wp2_with fail
    go_roundg (4-4)
    case measure=>omega
    case rel =>
     refine⟨4,by omega,by omega,by go_num,?_⟩;have hs:=HL.set 5 (s.seq/16777216%256);rw [J6f] at hs
     first | exact hs | simpa using hs | (rw [show s.seq/16777216%256=s.seq/16777216 by omega] at hs; exact hs)
  · have HM4:=Zh (HM.below HL.es.bel);rw [HSV.out] at HM4;have c2:=HL.es.sm.cell (i:=2) rfl;rw [HSV.out] at c2;have cx:=HL.sec.cell (i:=6) (Qm (by rw [Ki _ _ (by omega)]; omega));have hfro:=HL.sec.frozen 6;have hn1':(1:Int)≤(s.marks.length:Int):=by omega
    have hn2':(s.marks.length:Int)≤24:=by omega
    go_wp2_with fail
    go_loopg [39] s.marks.length (fun q i wq=>∃k:Nat,s.marks.length-k≤q∧k≤s.marks.length∧i=.int .i64 k∧sET w wq g r x s sv (qd s k))
    case atStart =>
     refine⟨0,by omega,by omega,rfl,?_⟩;have hs:=HL.set 6 s.marks.length;rw [J6g] at hs;exact hs
    case round =>
     obtain⟨k,hgk,hk,rfl,het⟩:=hrel;have HE:=Zh het;clear het HL HM4 c2 cx hfro
     by_cases hlt:k<s.marks.length
     · have hlk:s.marks[k]? = some s.marks[k]:=by simp [hlt]
       have HM5:=HM.below HE.es.bel;rw [HSV.out] at HM5;obtain⟨b',o',cap',he,hcells⟩:=HM5.has (by omega);cases he;obtain⟨c1,c2⟩:=hcells k _ hlk;have hmb:=ZQ HG.out _ (List.getElem_mem hlt);have HST:=Zh (qs hlk (by omega));clear hcells HM5 hlk;generalize s.marks[k]=m at *;obtain⟨mk,mi⟩:=m;obtain⟨⟨hm1,hm2⟩,⟨hm3,hm4⟩⟩:=hmb;simp only at c1 c2 hm1 hm2 hm3 hm4;have hk0:(0:Int)≤(k:Int):=by omega
       have hk1:(k:Int)<(s.marks.length:Int):=by omega
       have hk2:(k:Int)<24:=by omega
       go_upto_region 16 with fail;have HE2:=Zh (HE.alloc (Obj.cells #[Value.int IntKind.i64 mk,Value.int IntKind.i64 mi] 79));have hnew:=Blk.new wr #[Value.int IntKind.i64 mk,Value.int IntKind.i64 mi] 79;have d1:=hnew.cell (i:=0) rfl;have d2:=hnew.cell (i:=1) rfl;have hnx:x<wr.heap.size:=HE.sec.lt;clear hnew c1 c2 HE;generalize wr.heap.size=nn at *;generalize wr.alloc (Obj.cells #[Value.int IntKind.i64 mk,Value.int IntKind.i64 mi] 79)=wn at *;have e1:=HE2.sec.cell (i:=7+k*2) (Qm (by rw [Xt _ _ (by omega) (by omega)]; omega));have e2:=HE2.sec.cell (i:=7+k*2+1) (Qm (by rw [Xt _ _ (by omega) (by omega)]; omega));have f1:=HE2.sec.frozen (7+k*2);have f2:=HE2.sec.frozen (7+k*2+1)
       go_region
       go_wp2_with fail
       go_roundg (s.marks.length-(k+1))
       case measure=>omega
       case rel =>
        refine⟨k+1,by omega,by omega,by go_num,?_⟩;have hs:=((HE2.set (7+k*2) mk).set (7+k*2+1) mi).drew;rw [HST.out] at hs;exact hs
     · have hkl:k=s.marks.length:=by omega
       subst hkl;have HE2:=HE.out;rw [ya] at HE2;have HE2:=Zh HE2;have HLN:=Zh (Xs HG.out);clear hlt HE;go_upto_region 18 with fail;refine Zl ?_;refine Q6 (cs:=(u8s s.enc).toArray) (Blk.all HE2.sec rfl) (by rw [J2,HLN.out]) rfl rfl ?_;refine nm ?_;refine J3 (cs:=(u8s s.enc).toArray) HE2.es.res (by rw [J2,HLN.out]; simp [zeros]) (by rw [J2,HLN.out]; exact info36) (Ji _) rfl rfl rfl ?_;intro wZ hZ hOZ hlZ;refine nm ?_;have HF:=Zh (HE2.es.bel.trans (hOZ.below HE2.es.bel.size (fun k hk=>by have:=HE2.es.g0; have:=HE2.es.gr; omega)));refine tk (.int .i64 0) ?_;go_wp2_with fail
       refine bodyPost_ret (v:=.tuple #[.agg (u8s s.enc).toArray,.int .i64 0]) (results_cell_tmp rfl _ _ r 0 _ _ _ rfl rfl Tryz.underlying36 rfl (by rw [J2,HLN.out]; exact info36) (hZ.all rfl)) rfl ⟨rfl,by first | exact HF.out | (rw [HGG.out]; exact HF.out)⟩
theorem ZR(s:Sm)(sv:Value)(hmo:s.more=false)(hq:0≤s.seq∧s.seq<4294967296)(w:World)(h:MarksAt w sv s.marks)(hg:s.good=true):Calls Tryz.prog 160 #[.agg #[.int .u32 s.seq,.bool s.more,sv]] w (Zr w (.tuple #[.agg (u8s s.enc).toArray,.int .i64 0])):=by
 have HM:=Zh h;have HG:=Zh hg;obtain⟨hn1,hn2⟩:=QL hg;have hl:s.marks.length≤1000000:=by omega
 obtain⟨hq1,hq2⟩:=hq;obtain⟨a,o,cap,hsv,_⟩:=h.has (by omega);have HMO:=Zh hmo;have HSV:=Zh hsv;clear hg h hmo hsv;go_enter Tryz.func160,Tryz.ntmps160
 repeat (first | (with_reducible refine JL (id:=0) ?_) | go_values | go_skip | go_guarded | go_step | go_upon | go_back)
 refine Stop.mk (wp_region_lit ?_);refine JT rfl rfl ?_;intro wA hA hB hl1;refine nm ?_;refine J4 Ka rfl ?_;intro wB hR hB2 hl2;refine nm ?_;have H0:Hid (sES w wB w.heap.size wA.heap.size s sv):=Zh ⟨hA.below hB2 hl1,hR,hB.trans (hB2.mono hB.size),Nat.le_refl _,hl1⟩;have HM0:=Zh (HM.below H0.bel);have HG1:=Zh fun w' (h':MarksAt w' sv s.marks)=>XV sv s.marks hl w' h';clear hA hB hl1 hR hB2 hl2;generalize hgg:w.heap.size=g at *;generalize hrr:wA.heap.size=r at *;have HGG:=Zh hgg;clear hgg hrr wA;refine tk (.int .i64 0) ?_;refine Zn ?_;have c2:=H0.sm.cell (i:=2) rfl
 go_wp2_with fail
 refine (HG1.out _ HM0.out).mono ?_;rintro e w1 ⟨rfl,hb⟩;have H1:=Zh (H0.below hb);have HM1:=Zh (HM0.below hb);clear hb H0 HM0 c2 HG1;rw [show Jv s.marks=true from HG.out];go_upto_region 3 with fail;refine Zl ?_;refine tk (.agg (u8s (83::zeros 63)).toArray) ?_ (hr:=(Jc _ _ _ _ 36 #[(0,.const (.int .u8 83))] rfl #[(0,.int .u8 83)] (by simp only [List.map_toArray,List.map_cons,List.map_nil]; rfl) _ (yb _)));refine J4 Ka rfl ?_;intro wC hC hBC hlC;refine nm ?_;refine J3 hC (by simp [zeros]) (by simpa [zeros] using info36) (Ji _) rfl rfl rfl ?_;intro wD hD hOD hlD;refine nm ?_;have hBD:=hBC.trans (hOD.below hBC.size (fun k hk=>Nat.le_of_eq hk.symm));have H2:Hid (sET w wD g r w1.heap.size s sv (83::zeros 63)):=Zh (sET.mk (H1.below hBD) hD H1.res.lt);clear hC hBC hlC hD hOD hlD hBD HM1;generalize hss:w1.heap.size=x at *;clear hss;refine Zn ?_;have c1:=H2.es.sm.cell (i:=1) rfl;rw [HMO.out] at c1;have cb:=H2.sec.cell (i:=1) rfl;have hfro:=H2.sec.frozen 1
 go_wp2_with fail
 go_loopg [18] 4 (fun q i wr=>∃k:Nat,4-k≤q∧k≤4∧i=.int .i64 k∧sET w wr g r x s sv (YP s k))
 case atStart =>
  refine⟨0,by omega,by omega,rfl,?_⟩;have hs:=H2.out;rw [show (83::zeros 63:List Int)=YP s 0 by rw [J6b,HMO.out]; rfl] at hs;exact hs
 case round =>
  obtain⟨k,hgk,hk,rfl,het⟩:=hrel;have HL:=Zh het;clear het;rcases (show k=0∨k=1∨k=2∨k=3∨k=4 by omega) with rfl | rfl | rfl | rfl | rfl
  · have c0:=HL.es.sm.cell (i:=0) rfl;have cx:=HL.sec.cell (i:=2) (Qm (by rw [Ki _ _ (by omega)]; omega));have hfro:=HL.sec.frozen 2
    go_wp2_with fail
    go_roundg (4-1)
    case measure=>omega
    case rel =>
     refine⟨1,by omega,by omega,by go_num,?_⟩;have hs:=HL.set 2 (s.seq%256);rw [J6c] at hs
     first | exact hs | simpa using hs | (rw [show s.seq/16777216%256=s.seq/16777216 by omega] at hs; exact hs)
  · have c0:=HL.es.sm.cell (i:=0) rfl;have cx:=HL.sec.cell (i:=3) (Qm (by rw [Ki _ _ (by omega)]; omega));have hfro:=HL.sec.frozen 3
    go_wp2_with fail
    go_roundg (4-2)
    case measure=>omega
    case rel =>
     refine⟨2,by omega,by omega,by go_num,?_⟩;have hs:=HL.set 3 (s.seq/256%256);rw [J6d] at hs
     first | exact hs | simpa using hs | (rw [show s.seq/16777216%256=s.seq/16777216 by omega] at hs; exact hs)
  · have c0:=HL.es.sm.cell (i:=0) rfl;have cx:=HL.sec.cell (i:=4) (Qm (by rw [Ki _ _ (by omega)]; omega));have hfro:=HL.sec.frozen 4
    go_wp2_with fail
    go_roundg (4-3)
    case measure=>omega
    case rel =>
     refine⟨3,by omega,by omega,by go_num,?_⟩;have hs:=HL.set 4 (s.seq/65536%256);rw [J6e] at hs
     first | exact hs | simpa using hs | (rw [show s.seq/16777216%256=s.seq/16777216 by omega] at hs; exact hs)
  · have c0:=HL.es.sm.cell (i:=0) rfl;have cx:=HL.sec.cell (i:=5) (Qm (by rw [Ki _ _ (by omega)]; omega));have hfro:=HL.sec.frozen 5
    go_wp2_with fail
    go_roundg (4-4)
    case measure=>omega
    case rel =>
     refine⟨4,by omega,by omega,by go_num,?_⟩;have hs:=HL.set 5 (s.seq/16777216%256);rw [J6f] at hs
     first | exact hs | simpa using hs | (rw [show s.seq/16777216%256=s.seq/16777216 by omega] at hs; exact hs)
  · have HM4:=Zh (HM.below HL.es.bel);rw [HSV.out] at HM4;have c2:=HL.es.sm.cell (i:=2) rfl;rw [HSV.out] at c2;have cx:=HL.sec.cell (i:=6) (Qm (by rw [Ki _ _ (by omega)]; omega));have hfro:=HL.sec.frozen 6;have hn1':(1:Int)≤(s.marks.length:Int):=by omega
    have hn2':(s.marks.length:Int)≤24:=by omega
    go_wp2_with fail
    go_loopg [39] s.marks.length (fun q i wq=>∃k:Nat,s.marks.length-k≤q∧k≤s.marks.length∧i=.int .i64 k∧sET w wq g r x s sv (qd s k))
    case atStart =>
     refine⟨0,by omega,by omega,rfl,?_⟩;have hs:=HL.set 6 s.marks.length;rw [J6g] at hs;exact hs
    case round =>
     obtain⟨k,hgk,hk,rfl,het⟩:=hrel;have HE:=Zh het;clear het HL HM4 c2 cx hfro
     by_cases hlt:k<s.marks.length
     · have hlk:s.marks[k]? = some s.marks[k]:=by simp [hlt]
       have HM5:=HM.below HE.es.bel;rw [HSV.out] at HM5;obtain⟨b',o',cap',he,hcells⟩:=HM5.has (by omega);cases he;obtain⟨c1,c2⟩:=hcells k _ hlk;have hmb:=ZQ HG.out _ (List.getElem_mem hlt);have HST:=Zh (qs hlk (by omega));clear hcells HM5 hlk;generalize s.marks[k]=m at *;obtain⟨mk,mi⟩:=m;obtain⟨⟨hm1,hm2⟩,⟨hm3,hm4⟩⟩:=hmb;simp only at c1 c2 hm1 hm2 hm3 hm4;have hk0:(0:Int)≤(k:Int):=by omega
       have hk1:(k:Int)<(s.marks.length:Int):=by omega
       have hk2:(k:Int)<24:=by omega
       go_upto_region 16 with fail;have HE2:=Zh (HE.alloc (Obj.cells #[Value.int IntKind.i64 mk,Value.int IntKind.i64 mi] 79));have hnew:=Blk.new wr #[Value.int IntKind.i64 mk,Value.int IntKind.i64 mi] 79;have d1:=hnew.cell (i:=0) rfl;have d2:=hnew.cell (i:=1) rfl;have hnx:x<wr.heap.size:=HE.sec.lt;clear hnew c1 c2 HE;generalize wr.heap.size=nn at *;generalize wr.alloc (Obj.cells #[Value.int IntKind.i64 mk,Value.int IntKind.i64 mi] 79)=wn at *;have e1:=HE2.sec.cell (i:=7+k*2) (Qm (by rw [Xt _ _ (by omega) (by omega)]; omega));have e2:=HE2.sec.cell (i:=7+k*2+1) (Qm (by rw [Xt _ _ (by omega) (by omega)]; omega));have f1:=HE2.sec.frozen (7+k*2);have f2:=HE2.sec.frozen (7+k*2+1)
       go_region
       go_wp2_with fail
       go_roundg (s.marks.length-(k+1))
       case measure=>omega
       case rel =>
        refine⟨k+1,by omega,by omega,by go_num,?_⟩;have hs:=((HE2.set (7+k*2) mk).set (7+k*2+1) mi).drew;rw [HST.out] at hs;exact hs
     · have hkl:k=s.marks.length:=by omega
       subst hkl;have HE2:=HE.out;rw [ya] at HE2;have HE2:=Zh HE2;have HLN:=Zh (Xs HG.out);clear hlt HE;go_upto_region 18 with fail;refine Zl ?_;refine Q6 (cs:=(u8s s.enc).toArray) (Blk.all HE2.sec rfl) (by rw [J2,HLN.out]) rfl rfl ?_;refine nm ?_;refine J3 (cs:=(u8s s.enc).toArray) HE2.es.res (by rw [J2,HLN.out]; simp [zeros]) (by rw [J2,HLN.out]; exact info36) (Ji _) rfl rfl rfl ?_;intro wZ hZ hOZ hlZ;refine nm ?_;have HF:=Zh (HE2.es.bel.trans (hOZ.below HE2.es.bel.size (fun k hk=>by have:=HE2.es.g0; have:=HE2.es.gr; omega)));refine tk (.int .i64 0) ?_;go_wp2_with fail
       refine bodyPost_ret (v:=.tuple #[.agg (u8s s.enc).toArray,.int .i64 0]) (results_cell_tmp rfl _ _ r 0 _ _ _ rfl rfl Tryz.underlying36 rfl (by rw [J2,HLN.out]; exact info36) (hZ.all rfl)) rfl ⟨rfl,by first | exact HF.out | (rw [HGG.out]; exact HF.out)⟩
set_option linter.unusedVariables false in
theorem Yj (s:Sm) (sv:Value) (hl:s.marks.length≤1000000) (hw:s.Wf) (w:World) (h:MarksAt w sv s.marks):Calls Tryz.prog 160 #[.agg #[.int .u32 s.seq,.bool s.more,sv]] w (Zr w (.tuple #[.agg (u8s s.sec).toArray,.int .i64 s.err])):=by
 unfold Sm.sec Sm.err;cases hg:s.good with
 | false=>exact zU s sv hl w h hg
 | true =>
  cases hm:s.more with
  | false=>have:=ZR s sv hm hw.seq w h hg; rw [hm] at this; exact this
  | true=>have:=jA s sv hm hw.seq w h hg; rw [hm] at this; exact this
theorem J6i:(Tryz.prog.info? 79).map (fun i=>(i.zero,i.size,i.bytes))=some (some (.agg #[.int .i64 0,.int .i64 0]),2,16):=by kernel_rfl
theorem X7(n:Nat):(madeCells (#[.int .i64 0,.int .i64 0]:Array Value) (n*2)).toList=Jq (zeros (n*2)):=by
 unfold madeCells;apply List.ext_getElem?;intro i
 by_cases h:i<n*2
 · have h2:i%2=0∨i%2=1:=by omega
   rcases h2 with h2 | h2 <;> simp [zeros,h,h2]
 · simp [zeros,h]
theorem MarksAt.of_row{l:List Mk}(h:Blk w m (Jq (flat l)))(hn:l.length=n):MarksAt w (.slice (some ⟨m,0,none⟩) n cap) l:=by
 subst hn;refine⟨_,cap,rfl,fun i y hy=>⟨m,0,rfl,?_,?_⟩⟩
 · rw [Nat.zero_add];exact h.cell (by rw [List.getElem?_map,Nat.mul_comm,ka,hy]; rfl)
 · rw [Nat.zero_add];exact h.cell (by rw [List.getElem?_map,Nat.mul_comm,kc,hy]; rfl)
theorem Blk.inv{l:List Value}(h:Blk w b l)(hi:w.cell? ⟨b,i,none⟩=some v):l[i]? = some v:=by
 by_cases hl:i<l.length
 · have:=h.cell (List.getElem?_eq_getElem hl);rw [this] at hi;rw [List.getElem?_eq_getElem hl,←hi]
 · obtain⟨t,ht⟩:=h;exfalso;simp [World.cell?,ht,hl] at hi
theorem qt(h:w'.heap[b]? = w.heap[b]?):w'.cell? ⟨b,i,none⟩=w.cell? ⟨b,i,none⟩:=by simp [World.cell?,h]
def J6j(L:List Value):Prop:=∀i n m,L[i]? = some (.int .i64 n)→L[i+1]? = some (.int .i64 m)→False
theorem MarksAt.only{l:List Mk}{t:Nat}(h:MarksAt w sv l)(ho:Only (fun k=>k=t) w w')(ht:Blk w t L)(hL:J6j L):MarksAt w' sv l:=by
 obtain⟨a,cap,e,hc⟩:=h;refine⟨a,cap,e,fun i x hx=>?_⟩;obtain⟨b,o,e2,h1,h2⟩:=hc i x hx;have hb:b≠t:=by
  rintro rfl;exact hL _ _ _ (ht.inv h1) (ht.inv h2)
 refine⟨b,o,e2,?_,?_⟩
 · rw [←h1];exact qt (ho.block b (block_lt_of_cell h1) hb)
 · rw [←h2];exact qt (ho.block b (block_lt_of_cell h2) hb)
def OwnM(w:World)(B:Nat)(sv:Value)(l:List Mk):Prop:=w.ownsRow B 79 2 sv l.length (Jq (flat l))
theorem OwnM.marks{l:List Mk}(h:OwnM w B sv l):MarksAt w sv l:=by
 rcases h.2 with ⟨rfl,h0⟩ | ⟨g,cap,cur,rfl,hb,hg,hn,hm,hs,ht⟩
 · have:l=[]:=List.eq_nil_of_length_eq_zero h0;subst this;exact MarksAt.nil _ _ _
 · refine⟨_,cap,rfl,fun i x hx=>⟨g,0,rfl,?_,?_⟩⟩
   · have hi:=(List.getElem?_eq_some_iff.1 hx).1;rw [Nat.zero_add,World.ownsRow.cellAt h (i*2) (by omega),List.getElem?_map,Nat.mul_comm,ka,hx];rfl
   · have hi:=(List.getElem?_eq_some_iff.1 hx).1;rw [Nat.zero_add,World.ownsRow.cellAt h (i*2+1) (by omega),List.getElem?_map,Nat.mul_comm,kc,hx];rfl
theorem Jgg:∃i,Tryz.prog.info? 79=some i∧i.zero=some (.agg #[.int .i64 0,.int .i64 0])∧i.size=2∧i.bytes=16:=by
 have:=J6i;cases hq:Tryz.prog.info? 79 with
 | none=>simp [hq] at this
 | some i=>simp [hq] at this; exact⟨i,rfl,this⟩
theorem OwnM.lit(w:World)(B:Nat)(hB:B≤w.heap.size)(l:List Mk)(hl:l.length≤1000000)(cs:Array Value)(hc:cs=(Jq (flat l)).toArray):OwnM (w.alloc (.cells cs 79)) B (.slice (some ⟨w.heap.size,0,none⟩) l.length l.length) l:=by
 subst hc;refine⟨by rw [List.length_map,K7]; omega,.inr ⟨w.heap.size,l.length,_,rfl,hB,heap_alloc_new w _,Nat.le_refl _,by simp only [maxLen]; omega,by simp [K7]; omega,List.take_of_length_le (by simp [K7]; omega)⟩⟩
end Go.Proofs.YtdbfmikeaoaebaaGreatDoor
