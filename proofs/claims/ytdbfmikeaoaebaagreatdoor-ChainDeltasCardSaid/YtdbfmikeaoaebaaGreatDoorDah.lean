/- Steps. -/
import Derived.Test.YtdbfmikeaoaebaaGreatDoorDae
import Derived.Test.YtdbfmikeaoaebaaGreatDoorDag
import Derived.Maps.AppendAt
set_option linter.unusedSimpArgs false
set_option linter.unusedVariables false
set_option maxRecDepth 100000
set_option maxHeartbeats 4000000
namespace Go.Proofs.YtdbfmikeaoaebaaGreatDoor
open Go.RowKit
def GatOutF(B:Nat)(r:List It×Nat)(e:Ending)(w':World):Prop:=∃iv pl,r.1=pl.map (·.1)∧e=.returned (.tuple #[iv,.int .i64 r.2])∧ItemsAt w' iv pl∧Fresh B iv∧∀x∈pl,Fresh B x.2
theorem GatOutF.none{B:Nat}{r:List It×Nat}{w':World}(h:r=([],0)):GatOutF B r (.returned (.tuple #[.slice Option.none 0 0,.int .i64 0])) w':=by
 subst h;exact⟨_,[],rfl,rfl,ItemsAt.nil _ _ _,Fresh.nil _,fun x hx=>by cases hx⟩
theorem zo(L:List (List Int))(N:Nat)(hN:L.length=N)(hNN:N≤100000)(sv:Value)(w:World)(h:SecsAt w sv L):Calls Tryz.prog 184 #[sv] w fun e w'=>GatOutF w.heap.size (Kp L) e w'∧Below w.heap.size w w':=by
 obtain⟨a,cap,rfl,hcap,hc⟩:=id h;have HS:=Zh h;rw [hN] at HS ⊢;have HC:=Zh hc;have HN:=Zh hN;have HG:Hid (gat L (N+1) [] 0=Kp L):=Zh (by unfold Kp;rw [hN]);have HCAP:Hid (N≤cap):=Zh (by omega);clear h hc hN hcap;go_enter Tryz.func184,Tryz.ntmps184
 go_wp2_with fail
 go_loopg [2,3] N (fun q u2 u3 wr=>∃(t f:Nat) (s2:Value) (P:List (It×Value)),s2=u2∧N-t≤q∧t≤N∧N<t+f∧u3=.int .i64 t∧P.length≤88∧gat L f (P.map (·.1)) t=Kp L∧(∀x∈P,Fresh w.heap.size x.2)∧OwnI wr w.heap.size s2 P∧Below w.heap.size w wr)
 case atStart=>exact⟨0,N+1,_,[],rfl,by omega,by omega,by omega,rfl,by simp,HG.out,(fun x hx=>by cases hx),OwnI.nil _ _,Below.refl _ _⟩
 case round =>
  obtain⟨t,f,s2,P,rfl,hq,ht,hf,rfl,hP,hg,hfx,ho,hb⟩:=hrel;have HFX:=Zh hfx;clear hfx;obtain⟨f,rfl⟩:∃g,f=g+1:=⟨f-1,by omega⟩
  obtain⟨a2,c2,hs2,-⟩:=ho.len;subst hs2;have HO:=Zh ho;have HB:=Zh hb;have HGT:=Zh hg;obtain⟨pn,hpn⟩:∃p,P.length=p:=⟨_,rfl⟩
  rw [hpn] at HO hP;rw [hpn];have HPN:=Zh hpn;clear hg ho hb HG hpn
  by_cases hlt:t<N
  · by_cases hpl:64<pn
    · have HX:Hid (Kp L=([],0)):=Zh (by rw [←HGT.out];exact J8m (by rw [List.length_map,HPN.out];exact hpl));have g1:decide ((t:Int)<(N:Int))=true:=decide_eq_true (by omega);have g2:decide ((pn:Int)≤64)=false:=decide_eq_false (by omega)
      go_wp2_with fail
      first|go_ret2|go_ret
      exact⟨GatOutF.none HX.out,HB.out⟩
    have g1:decide ((t:Int)<(N:Int))=true:=decide_eq_true (by omega);have g2:decide ((pn:Int)≤64)=true:=decide_eq_true (by omega);have ht0:(t:Int)<(N:Int):=by omega
    have hp64:pn≤64:=by omega
    obtain⟨y,hy⟩:∃y,L[t]? = some y:=⟨_,List.getElem?_eq_getElem (by have:=HN.out;omega)⟩
    obtain⟨y1,yg,yo,rfl,y2⟩:=HC.out t y hy;have HYK:=Zh hy;have HY:=Zh (y2.below HB.out (y2.lt (by rw [y1.size];decide)));have HYS:=Zh y1.size;have HDE:=Zh fun w=>yK y y1 w;have HREST:=Zh (HS.cut (t+1) N (by omega) (Nat.le_refl _) (L.drop (t+1)) (by rw [List.take_of_length_le (by rw [List.length_drop,HN.out];omega)]));clear y1 y2 hy hpl hlt;go_upto_region 2 with fail;refine Zl ?_;refine tk (.slice (some ⟨yg,yo,none⟩) N cap) ?_;refine tk (.int .i64 t) ?_;refine tk (.pointer (some ⟨yg,yo+t*64,none⟩)) ?_;refine KX (cs:=(u8s y).toArray) HY.out HYS.out rfl rfl ?_;refine nm ?_;refine J0 rfl fun K hK=>?_;go_simp;refine (HDE.out _).mono ?_;rintro e w2 ⟨mv,rfl,hm,hb,hfr⟩;have HO2:=Zh (HO.below hb);have HB2:=Zh (Jr HB.out hb);have HM:=Zh hm;have HFR:=Zh hfr;have HLT:=Zh fun k hk=>(HO.lt k hk).2;clear hm hb hfr HO HB HY HDE;refine hK _ _ (nm ?_);clear hK K;refine tk (.tuple #[.agg #[.int .u32 (jd y).seq,.bool (jd y).more,mv],.int .i64 (jB y)]) ?_;refine tk (.agg #[.int .u32 (jd y).seq,.bool (jd y).more,mv]) ?_;refine tk (.int .i64 (jB y)) ?_;refine J4 J8k rfl ?_;intro w3 hA hb hl;refine nm ?_;refine J3 (cs:=#[.int .u32 (jd y).seq,.bool (jd y).more,mv]) hA rfl J8l (Jch HM.out _ _) rfl rfl rfl ?_;intro w4 hD hO hlD;refine nm ?_;have hbb:Below w2.heap.size w2 w4:=hb.trans (hO.below hb.size fun k hk=>Nat.le_of_eq hk.symm);have HO4:=Zh (HO2.below hbb);have HB4:=Zh (Jr HB2.out hbb);have HM4:=Zh (HM.below hbb);have HV4:=Zh hD;have HNE:Hid (∀k,Value.ownBlock (.slice a2 pn c2)=some k→k<w2.heap.size):=Zh fun k hk=>(HO2.lt k hk).2;generalize w2.heap.size=b4 at *;clear hA hb hl hD hO hlD hbb HO2 HB2 HM;refine tk (.int .i64 (jB y)) ?_;refine Zn ?_;cases hs:KK y
    · have HX:Hid (Kp L=([],0)):=Zh (by rw [←HGT.out];exact J4y HYK.out hs);rw [(kc hs).2];clear hs
      go_wp2_with fail
      first|go_ret2|go_ret
      exact⟨GatOutF.none HX.out,HB4.out⟩
    have HSUM:=Zh hs;have hgm:=yQ hs;have HMG:=Zh hgm;rw [(ZG hs).1] at HM4 HV4;rw [(ZG hs).2,(ZG hs).1];clear hs;obtain⟨ms,hms⟩:∃ms,(J7 y).marks=ms:=⟨_,rfl⟩
    rw [hms] at HM4 HMG;have HMS:=Zh hms;have hml:=(QN HMG.out).2;have HBL:=Zh fun w h=>J0w mv ms (by omega) w h;have HIO:=Zh fun w h1 h2=>yP ms (xx HMG.out) ms.length rfl hml (L.drop (t+1)) (by rw [List.length_drop,HN.out];omega) mv (.slice (K6 (some ⟨yg,yo,none⟩) (t+1) cap 64) (N-(t+1)) (cap-(t+1))) w h1 h2;have hbl:=X9 ms;obtain⟨bn,hbn⟩:∃b,JC ms=b:=⟨_,rfl⟩
    rw [hbn] at hbl HBL;have HBN:=Zh hbn;have hb24:bn≤24:=by omega
    obtain⟨mo,hmo⟩:∃m,(J7 y).more=m:=⟨_,rfl⟩
    have HMO:=Zh hmo;rw [hmo] at HV4 ⊢;clear hms hgm hml hbl hbn hmo;have cv1:w4.cell? ⟨b4,1,none⟩=some (.bool mo):=HV4.cell rfl;have cv2:w4.cell? ⟨b4,2,none⟩=some mv:=HV4.cell rfl;go_upto_region 5 with fail;refine J9 (fun wq=>Below w4.heap.size w4 wq) (by kernel_rfl) ?_;refine th 0 28 (.pointer (some ⟨b4,2,none⟩)) (Below.refl _ _).drew ?_;refine th 1 29 (mv) (Below.refl _ _).drew ?_ (hy:=fun wq hS=>by have q:wq.cell? ⟨b4,2,none⟩=some mv:=(HV4.below hS HV4.lt).cell rfl;go_simp);refine th 2 30 (.slice (some ⟨yg,yo,none⟩) N cap) (Below.refl _ _).drew ?_;refine th 3 31 (.int .i64 t) (Below.refl _ _).drew ?_;refine th 4 32 (.int .i64 ((t+1:Nat):Int)) (Below.refl _ _).drew ?_ (hy:=fun wq hS=>by go_simp;exact JB (by omega) (by omega));refine th 5 33 (.slice (K6 (some ⟨yg,yo,none⟩) (t+1) cap 64) (N-(t+1)) (cap-(t+1))) (Below.refl _ _).drew ?_ (hy:=fun wq hS=>by exact jC wq _ _ _ _ rfl (some ⟨yg,yo,none⟩) N cap (t+1) rfl rfl (by omega));refine Zo 6 fun K hK=>?_;go_simp;refine (HIO.out _ (HM4.below (Below.refl _ _).drew) (HREST.below (HB4.drew))).mono ?_;rintro e w6 ⟨hio,hb⟩;have HS6:=Zh (Jr (Below.refl w4.heap.size w4).drew hb);have HB6:=Zh (Jr HB4.out HS6.out);have HO6:=Zh (HO4.below HS6.out);have HM6:=Zh (HM4.below HS6.out);have HV6:=Zh (HV4.below HS6.out HV4.lt);have HL4:=Zh HV4.lt;have HW4:Hid (w.heap.size≤w4.heap.size):=Zh HB4.size;clear cv1 cv2 hb HB4 HO4 HM4 HV4;rcases hio with ⟨h1,rfl⟩|⟨iv,pl,h1,rfl,h2,h3⟩
    · have HX:Hid (Kp L=([],0)):=Zh (by rw [←HGT.out];exact J8n HYK.out (by rw [HMS.out];exact h1));clear h1;refine hK _ _ HS6.out (nm ?_);clear hK K;refine th 7 27 (.tuple #[.slice none 0 0,.bool false]) HS6.out ?_;refine th 8 35 (.slice none 0 0) HS6.out ?_;refine th 9 36 (.bool false) HS6.out ?_;refine th 10 6 (.slice none 0 0) HS6.out ?_;refine th 11 7 (.bool false) HS6.out ?_;refine Zd ?_
      go_wp2_with fail
      first|go_ret2|go_ret
      exact⟨GatOutF.none HX.out,HB6.out⟩
    · have hlen:=Zc h1;rw [List.length_map,HBN.out,List.length_drop,HN.out] at hlen;obtain⟨hl1,hl2⟩:=hlen;have hl3:pl.length≤24:=by have:=(QN HMG.out).2;omega
      have HSOME:=Zh (J8o (L:=L) (f:=f) (P:=P.map (·.1)) HYK.out HSUM.out (by rw [List.length_map,HPN.out];exact hp64) (by rw [HMS.out];exact h1));have H2:=Zh h2;have H3:=Zh h3;have HFP:Hid (∀x∈P++pl,Fresh w.heap.size x.2):=Zh fun x hx=>(List.mem_append.1 hx).elim (HFX.out x) fun h=>fun b o n c e=>Nat.le_trans HW4.out (h3 x h b o n c e);have HL3:=Zh hl3;have hl4:t+(1+bn)≤N:=by omega
      clear h1 h2 h3 hl1 hl2 hl3;refine hK _ _ HS6.out (nm ?_);clear hK K;refine th 7 27 (.tuple #[iv,.bool true]) HS6.out ?_;refine th 8 35 (iv) HS6.out ?_;refine th 9 36 (.bool true) HS6.out ?_;refine th 10 6 (iv) HS6.out ?_;refine th 11 7 (.bool true) HS6.out ?_;refine Zd ?_;go_upto_region 8 with fail;refine Zl ?_;refine tk (.slice a2 pn c2) ?_;refine tk (iv) ?_;refine Jfl HO6.out HB6.size H2.out (fun x hx=>Off.fresh (H3.out x hx) fun k hk=>Nat.lt_trans (HNE.out k hk) HL4.out) (by have:=HL3.out;have:=HPN.out;omega) rfl rfl rfl ?_;intro s7 w7 ho7 hg7 hr7;refine nm ?_;have HB7:=Zh (HB6.trans (K4 hg7 HB6.size fun k hk=>(HO6.lt k hk).1));have HO7:=Zh ho7;have HV7:=Zh (HV6.grown hg7 fun k hk=>Nat.ne_of_lt (HNE.out k hk));have HM7:=Zh (HM6.grown hg7 HFR.out fun k hk=>HLT.out k hk);clear ho7 hg7 hr7 HB6 HO6 HV6 HM6;refine tk (s7) ?_;refine Zn ?_;have cv1:w7.cell? ⟨b4,1,none⟩=some (.bool mo):=HV7.cell rfl;have cv2:w7.cell? ⟨b4,2,none⟩=some mv:=HV7.cell rfl
      go_wp2_with fail
      refine (HBL.out _ HM7.out).mono ?_;rintro e w8 ⟨rfl,hb⟩;have HB8:=Zh (Jr HB7.out hb);have HO8:=Zh (HO7.below hb);have HV8:=Zh (HV7.below hb HV7.lt);clear hb HB7 HO7 HV7 HM7 cv1 cv2;have cv1:w8.cell? ⟨b4,1,none⟩=some (.bool mo):=HV8.cell rfl;rw [HMO.out,HMS.out,HBN.out] at HSOME;cases mo
      · have HX:Hid (Kp L=((P++pl).map (·.1),t+(1+bn))):=Zh (by rw [←HGT.out,HSOME.out];simp)
        go_wp2_with fail
        first|go_ret2|go_ret
        exact⟨⟨_,P++pl,by rw [HX.out],by rw [HX.out];simp,HO8.items,fun b o n c e=>(HO8.lt b (by rw [e];rfl)).1,HFP.out⟩,HB8.out⟩
      · have HX:Hid (gat L f ((P++pl).map (·.1)) (t+(1+bn))=Kp L):=Zh (by rw [←HGT.out,HSOME.out];simp);have hpl2:Hid ((P++pl).length≤88):=Zh (by rw [List.length_append,HPN.out];have:=HL3.out;omega);have hti:Hid ((t:Int)+(1+(bn:Int))=((t+(1+bn):Nat):Int)):=Zh (by omega)
        go_wp2_with fail
        go_roundg (N-(t+(1+bn)))
        case measure=>omega
        case rel=>exact⟨t+(1+bn),f,s7,P++pl,rfl,by omega,hl4,by omega,by rw [←hti.out],hpl2.out,HX.out,HFP.out,by simpa using HO8.out,HB8.out⟩
  · obtain rfl:t=N:=by omega
    have HX:Hid (Kp L=([],0)):=Zh (by rw [←HGT.out];exact Jci (by rw [HN.out];exact Nat.le_refl _));have g1:decide ((t:Int)<(t:Int))=false:=decide_eq_false (by omega)
    go_wp2_with fail
    first|go_ret2|go_ret
    exact⟨GatOutF.none HX.out,HB.out⟩
def zp(B:Nat)(n:Int)(r:Option (List It))(e:Ending)(w':World):Prop:=(r=none∧e=.returned (.tuple #[.agg #[.slice none 0 0,.slice none 0 0,.int .i64 0,.int .i64 0],.bool false])) ∨
 ∃iv pl av,r=some (pl.map (·.1))∧e=.returned (.tuple #[.agg #[iv,av,.int .i64 (Jf n (pl.map (·.1))).1.length,.int .i64 (parts pl.length)],.bool true])∧ItemsAt w' iv pl∧IntsAt w' av (Jf n (pl.map (·.1))).2∧(∀k,av.ownBlock=some k→B≤k)∧Fresh B iv∧∀x∈pl,Fresh B x.2
theorem J5n(n:Int)(hn:Km n)(L:List (List Int))(N:Nat)(hN:L.length=N)(hNN:N≤100000)(sv:Value)(w:World)(h:SecsAt w sv L):Calls Tryz.prog 176 #[.int .u32 n,sv] w fun e w'=>zp w.heap.size n (X3 n L) e w'∧Below w.heap.size w w':=by
 have HGA:=Zh fun w h=>zo L N hN hNN sv w h;have HI:=Zh h;obtain⟨a,cap,rfl,hcap,-⟩:=h;have HN:=Zh hN;rw [hN] at HGA HI hcap ⊢;have HT:=Zh (J11 (L:=L));have HM:=Zh (yR (L:=L));have HCAP:=Zh hcap;clear hcap hN;go_enter Tryz.func176,Tryz.ntmps176;go_upto_region 0 with fail;refine Zl ?_;refine J4 ZI rfl ?_;intro w1 hR hb hl;refine nm ?_;have HR:=Zh hR;have HB:=Zh hb;have HL:=Zh hl;have HI1:=Zh (HI.below hb);clear hR hb hl;refine tk (.bool false) ?_;go_wp2_with fail
 refine (HGA.out _ HI1.out).mono ?_;rintro e w2 ⟨⟨iv,pl,h1,rfl,h2,hf1,hf2⟩,hb⟩;have HFF:Hid (Fresh w.heap.size iv∧∀x∈pl,Fresh w.heap.size x.2):=Zh ⟨fun b o n c e=>Nat.le_trans (Nat.le_of_lt HL.out) (hf1 b o n c e),fun x hx b o n c e=>Nat.le_trans (Nat.le_of_lt HL.out) (hf2 x hx b o n c e)⟩;clear hf1 hf2;have HB2:=Zh (Jr HB.out hb);have HR2:=Zh (HR.below hb HL.out);have HI2:=Zh (HI1.below hb);have HL2:Hid (w.heap.size<w2.heap.size):=Zh (Nat.lt_of_lt_of_le HL.out hb.size);have HP2:=Zh h2;have HRP:Hid (X3 n L=if JJ (pl.map (·.1))&&decide ((Jf n (pl.map (·.1))).1=L.take (Kp L).2) then some (pl.map (·.1)) else none):=Zh (by unfold X3;rw [h1]);have hpl:=HM.out;rw [h1,List.length_map] at hpl;have HPL:=Zh hpl;obtain⟨ia,ic,hiv,-⟩:=h2;have HTT:=HT.out;rw [HN.out] at HTT;obtain⟨t,ht⟩:∃t,(Kp L).2=t:=⟨_,rfl⟩
 rw [ht] at HRP HTT ⊢;clear h1 hb HB HR HI1 HL HGA hpl HT HM ht;obtain⟨pn,hpn⟩:∃p,pl.length=p:=⟨_,rfl⟩
 rw [hpn] at hiv;subst hiv;have HPN:=Zh hpn;have hpn88:pn≤88:=by have:=HPL.out;omega
 clear hpn HPL;have HPA:=Zh fun w=>Ym (.slice ia pn ic) pn ⟨_,_,rfl⟩ (by omega) w;cases hm:JJ (pl.map (·.1))
 · have HX:Hid (X3 n L=none):=Zh (by rw [HRP.out,hm,Bool.false_and];exact if_neg Bool.false_ne_true);have HLN:=Zh fun w h=>J7t pl (pl.map (·.1)) rfl hm n (.slice ia pn ic) (by have:=HPN.out;omega) w h;clear hm
   go_wp2_with fail
   refine (HLN.out _ HP2.out).mono ?_;rintro e w3 ⟨rfl,hb⟩;have HB3:=Zh (Jr HB2.out hb);have HR3:=Zh (HR2.below hb HL2.out);clear hb HB2 HR2 HI2 HP2 HLN;go_upto_region 4 with fail;refine Zl ?_;refine Jh (run_build _ 314 _ _ qN) rfl ?_;refine nm ?_;refine J3 (cs:=#[.slice none 0 0,.slice none 0 0,.int .i64 0,.int .i64 0]) HR3.out rfl Qf (Qr none none 0 0 0 0 0 0) rfl rfl rfl ?_;intro w4 hZ hO hlZ;refine nm ?_;have HB4:=Zh (HB3.trans (hO.below HB3.size fun k hk=>Nat.le_of_eq hk.symm));refine tk (.bool false) ?_;go_wp2_with fail
   refine bodyPost_ret (v:=.tuple #[.agg #[.slice none 0 0,.slice none 0 0,.int .i64 0,.int .i64 0],.bool false]) (results_cell_tmp rfl _ _ w.heap.size 0 _ _ _ rfl rfl Tryz.underlying314 rfl Qf (hZ.all rfl)) rfl ⟨.inl ⟨HX.out,rfl⟩,HB4.out⟩
 · rw [hm,Bool.true_and] at HRP;have HLY:=Zh fun w h=>J2y pl (pl.map (·.1)) rfl hm n hn (.slice ia pn ic) w h;clear hm;have HLL:=Zh (QP n (pl.map (·.1)));have HLB:=Zh (X9 (marks (pl.map (·.1))));have HLSM:Hid ((Jf n (pl.map (·.1))).1.length≤100000):=Zh (by
    have h1:=HLL.out
    have h2:=HLB.out
    rw [List.length_map,List.length_map] at h2
    rw [List.length_map,HPN.out] at h1
    have h3:parts pn≤pn+1:=by unfold parts;omega
    have h4:=HPN.out
    omega)
   go_wp2_with fail
   refine (HLY.out _ HP2.out).mono ?_;rintro e w3 ⟨s7,s8,rfl,ht⟩;have HB3:=Zh (Jr HB2.out ht.b);have HR3:=Zh (HR2.below ht.b HL2.out);have HI3:=Zh (HI2.below ht.b);have HP3:=Zh (HP2.below ht.b);have HS3:=Zh ht.s.secs;have HA3:=Zh ht.a.ints;have HN8:Hid (∀k,s8.ownBlock=some k→w.heap.size<k):=Zh fun k hk=>by have h1:=(ht.a.lt k hk).1;have h2:=HL2.out;omega
   have HL3:Hid (w.heap.size<w3.heap.size):=Zh (Nat.lt_of_lt_of_le HL2.out ht.b.size);have HCT:Hid (SecsAt w3 (.slice (K6 a 0 cap 64) t cap) (L.take t)):=Zh (by
    have:=HI3.cut 0 t (Nat.zero_le _) HTT (L.take t) (by simp)
    simpa using this)
   have HEQ:=Zh (J4x s7 (.slice (K6 a 0 cap 64) t cap) (Jf n (pl.map (·.1))).1 (L.take t) HLSM.out (by rw [List.length_take];have:=HN.out;omega) w3 HS3.out HCT.out);obtain⟨a7,c7,hs7,-⟩:=ht.s.len;obtain⟨a8,c8,hs8⟩:=ht.a.ints.form;subst hs7;subst hs8;have htc:t≤cap:=by have:=HCAP.out;omega
   obtain⟨l7,hl7⟩:∃m,(Jf n (pl.map (·.1))).1.length=m:=⟨_,rfl⟩
   obtain⟨l8,hl8⟩:∃m,(Jf n (pl.map (·.1))).2.length=m:=⟨_,rfl⟩
   rw [hl7] at HEQ ⊢;rw [hl8] at HA3 HN8 ⊢;have HL7:=Zh hl7;obtain⟨S7,hS7⟩:∃S,(Jf n (pl.map (·.1))).1=S:=⟨_,rfl⟩
   rw [hS7] at HEQ HRP;clear ht HB2 HR2 HI2 HP2 HL2 HS3 HCT HLY hl7 hl8 hS7 HLL HLB;go_upto_region 3 with fail;refine Zl ?_;refine tk (.int .i64 0) ?_;refine tk (.bool false) ?_;refine tk (.bool false) ?_;refine tk (.slice a7 l7 c7) ?_;refine tk (.slice a N cap) ?_;refine tk (.int .i64 t) ?_;refine tk (.slice (K6 a 0 cap 64) t cap) ?_ (hr:=(yO _ _ _ _ _ rfl a N cap t rfl rfl htc));refine J0 rfl fun K hK=>?_;go_simp;refine (HEQ.out).mono ?_;rintro e w4 ⟨rfl,hb⟩;have HB4:=Zh (Jr HB3.out hb);have HR4:=Zh (HR3.below hb HL3.out);have HP4:=Zh (HP3.below hb);have HA4:=Zh (HA3.below hb);clear hb HB3 HR3 HI3 HP3 HA3 HEQ;refine hK _ _ (nm ?_);clear hK K
   by_cases hd:S7=L.take t
   · have hdd:decide (S7=L.take t)=true:=decide_eq_true hd;have HX:Hid (X3 n L=some (pl.map (·.1))):=Zh (by rw [HRP.out,if_pos hdd]);rw [hdd];clear hd hdd HRP;refine tk (.bool false) ?_;refine tk (.bool false) ?_;go_upto_region 5 with fail;refine Zl ?_;refine tk (.slice ia pn ic) ?_;refine tk (.slice a8 l8 c8) ?_;refine tk (.slice a7 l7 c7) ?_;refine tk (.int .i64 l7) ?_;refine tk (.slice ia pn ic) ?_;refine J0 rfl fun K hK=>?_;go_simp;refine (HPA.out _).mono ?_;rintro e w5 ⟨rfl,rfl⟩;refine hK _ _ (nm ?_);clear hK K;refine tk (.agg #[.slice ia pn ic,.slice a8 l8 c8,.int .i64 l7,.int .i64 (parts pn)]) ?_ (hr:=(Jc _ _ _ _ 314 _ rfl #[(0,.slice ia pn ic),(1,.slice a8 l8 c8),(2,.int .i64 l7),(3,.int .i64 (parts pn))] (by simp only [List.map_toArray,List.map_cons,List.map_nil];rfl) _ (run_build w4 314 _ _ (J8p _ _ _ _ _ _ _ _))));refine J3 (cs:=#[.slice ia pn ic,.slice a8 l8 c8,.int .i64 l7,.int .i64 (parts pn)]) HR4.out rfl Qf (Qr _ _ _ _ _ _ _ _) rfl rfl rfl ?_;intro w6 hZ hO hlZ;refine nm ?_;have HB6:=Zh (HB4.trans (hO.below HB4.size fun k hk=>Nat.le_of_eq hk.symm));have HP6:=Zh (HP4.only HR4.out (J36 none none 0 0 0 0 0 0) hO);have HA6:=Zh (HA4.only hO fun b o n c e=>Nat.ne_of_gt (HN8.out b (by rw [e];rfl)));refine tk (.bool true) ?_;go_wp2_with fail
     refine bodyPost_ret (v:=.tuple #[.agg #[.slice ia pn ic,.slice a8 l8 c8,.int .i64 l7,.int .i64 (parts pn)],.bool true]) (results_cell_tmp rfl _ _ w.heap.size 0 _ _ _ rfl rfl Tryz.underlying314 rfl Qf (hZ.all rfl)) rfl ⟨.inr ⟨_,pl,_,HX.out,by rw [HL7.out,HPN.out],HP6.out,HA6.out,fun k hk=>Nat.le_of_lt (HN8.out k hk),HFF.out.1,HFF.out.2⟩,HB6.out⟩
   · have hdd:decide (S7=L.take t)=false:=decide_eq_false hd;have HX:Hid (X3 n L=none):=Zh (by rw [HRP.out,hdd];exact if_neg Bool.false_ne_true);rw [hdd];clear hd hdd HRP;refine tk (.bool true) ?_;refine tk (.bool true) ?_;go_upto_region 4 with fail;refine Zl ?_;refine Jh (run_build _ 314 _ _ qN) rfl ?_;refine nm ?_;refine J3 (cs:=#[.slice none 0 0,.slice none 0 0,.int .i64 0,.int .i64 0]) HR4.out rfl Qf (Qr none none 0 0 0 0 0 0) rfl rfl rfl ?_;intro w6 hZ hO hlZ;refine nm ?_;have HB6:=Zh (HB4.trans (hO.below HB4.size fun k hk=>Nat.le_of_eq hk.symm));refine tk (.bool false) ?_;go_wp2_with fail
     refine bodyPost_ret (v:=.tuple #[.agg #[.slice none 0 0,.slice none 0 0,.int .i64 0,.int .i64 0],.bool false]) (results_cell_tmp rfl _ _ w.heap.size 0 _ _ _ rfl rfl Tryz.underlying314 rfl Qf (hZ.all rfl)) rfl ⟨.inl ⟨HX.out,rfl⟩,HB6.out⟩
open Go.RowKit
variable {L:List Value} {P:Program} {X:List (List Int)} {g:Nat} {l:List Int} {sv v:Value} {w w':World}
theorem Qm{fn:Func}{p q r:Tmp}{ty ty2:TypeId}(h:fn.results=#[.cell p ty,.cell q ty2,.tmp r])(tmps:Array Value)(w:World)(g g2:Nat)(cs cs2:Array Value)(d d2:TypeDesc)(v:Value)(hp:tmps.getD p undef=.pointer (some ⟨g,0,none⟩))(hq:tmps.getD q undef=.pointer (some ⟨g2,0,none⟩))(hv:tmps.getD r undef=v)(hu:P.underlying ty=some d)(hu2:P.underlying ty2=some d2)(hd:(match d with|.struct _|.array _ _=>true|_=>false)=true)(hd2:(match d2 with|.struct _|.array _ _=>true|_=>false)=true)(hi:(P.info? ty).map (·.size)=some cs.size)(hi2:(P.info? ty2).map (·.size)=some cs2.size)(hc:∀j (h:j<cs.size),w.cell? ⟨g,0+j,none⟩=some cs[j])(hc2:∀j (h:j<cs2.size),w.cell? ⟨g2,0+j,none⟩=some cs2[j]) :
 (results fn tmps).run P w=.ok (.tuple #[.agg cs,.agg cs2,v]) w:=by
 have hp':tmps[p]?.getD undef=.pointer (some ⟨g,0,none⟩):=by simpa using hp
 have hq':tmps[q]?.getD undef=.pointer (some ⟨g2,0,none⟩):=by simpa using hq
 have hv':tmps[r]?.getD undef=v:=by simpa using hv
 simp [results,h,hp',hq',hv',asAddr,K9 w g 0 ty cs d hu hd hi hc,K9 w g2 0 ty2 cs2 d2 hu2 hd2 hi2 hc2]
theorem zq{fn:Func}{p q r:Tmp}{ty2:TypeId}(h:fn.results=#[.tmp p,.cell q ty2,.tmp r])(tmps:Array Value)(w:World)(g2:Nat)(cs2:Array Value)(d2:TypeDesc)(u v:Value)(hp:tmps.getD p undef=u)(hq:tmps.getD q undef=.pointer (some ⟨g2,0,none⟩))(hv:tmps.getD r undef=v)(hu2:P.underlying ty2=some d2)(hd2:(match d2 with|.struct _|.array _ _=>true|_=>false)=true)(hi2:(P.info? ty2).map (·.size)=some cs2.size)(hc2:∀j (h:j<cs2.size),w.cell? ⟨g2,0+j,none⟩=some cs2[j]) :
 (results fn tmps).run P w=.ok (.tuple #[u,.agg cs2,v]) w:=by
 have hp':tmps[p]?.getD undef=u:=by simpa using hp
 have hq':tmps[q]?.getD undef=.pointer (some ⟨g2,0,none⟩):=by simpa using hq
 have hv':tmps[r]?.getD undef=v:=by simpa using hv
 simp [results,h,hp',hq',hv',asAddr,K9 w g2 0 ty2 cs2 d2 hu2 hd2 hi2 hc2]
theorem Xz:(Tryz.prog.info? 214).bind (·.zero)=some (.agg #[.slice none 0 0,.slice none 0 0]):=by kernel_rfl
theorem KE:(Tryz.prog.info? 214).map (·.size)=some 2:=by kernel_rfl
theorem J5o:Tryz.prog.built 214 []=some #[.slice none 0 0,.slice none 0 0]:=by kernel_rfl
theorem J9m(a b:Option Addr)(k c n d:Nat):Tryz.prog.built 214 [(0,.slice a k c),(1,.slice b n d)]=some #[.slice a k c,.slice b n d]:=by kernel_rfl
theorem XG(a b:Option Addr)(k c n d:Nat):∀v∈(#[.slice a k c,.slice b n d]:Array Value),v.oneCell'=true:=fun v hv=>by
 simp only [List.mem_toArray,List.mem_cons,List.not_mem_nil,or_false] at hv;rcases hv with rfl|rfl <;> rfl
theorem J3m(a b:Option Addr)(k c n d:Nat):NoIt [.slice a k c,.slice b n d]:=⟨by simp,fun z hz=>by simp at hz⟩
theorem qY(x y z:Int)(a:Option Addr)(k c:Nat):NoIt [.int .i64 x,.int .i64 y,.int .u32 z,.slice a k c]:=⟨by simp,fun z hz=>by simp at hz⟩
structure Fm (w wx:World) (gB aB rB tB:Nat) (g:Pl.Gm) (A R T:List Value):Prop where
 gb:Blk wx gB [.int .i64 g.p,.int .i64 g.s,.int .i64 g.l,.int .i64 g.f]
 ab:Blk wx aB A
 rb:Blk wx rB R
 tb:Blk wx tB T
 bel:Below w.heap.size w wx
 lt:w.heap.size≤gB∧gB<aB∧aB<rB∧rB<tB∧tB<wx.heap.size
theorem Fm.below{wx wy:World}{gB aB rB tB:Nat}{g:Pl.Gm}{A R T:List Value}(h:Fm w wx gB aB rB tB g A R T)(hb:Below wx.heap.size wx wy):Fm w wy gB aB rB tB g A R T :=
 ⟨h.gb.below hb h.gb.lt,h.ab.below hb h.ab.lt,h.rb.below hb h.rb.lt,h.tb.below hb h.tb.lt,Jr h.bel hb,h.lt.1,h.lt.2.1,h.lt.2.2.1,h.lt.2.2.2.1,Nat.lt_of_lt_of_le h.lt.2.2.2.2 hb.size⟩
theorem Fm.setA{wx wy:World}{gB aB rB tB:Nat}{g:Pl.Gm}{A A' R T:List Value}(h:Fm w wx gB aB rB tB g A R T)(ho:Only (fun k=>k=aB) wx wy)(hb:Blk wy aB A'):Fm w wy gB aB rB tB g A' R T:=by
 obtain⟨l1,l2,l3,l4,l5⟩:=h.lt;exact⟨h.gb.only ho (by omega),hb,h.rb.only ho (by omega),h.tb.only ho (by omega),h.bel.trans (ho.below h.bel.size fun k hk=>by omega),l1,l2,l3,l4,Nat.lt_of_lt_of_le l5 ho.size⟩
theorem Fm.setR{wx wy:World}{gB aB rB tB:Nat}{g:Pl.Gm}{A R R' T:List Value}(h:Fm w wx gB aB rB tB g A R T)(ho:Only (fun k=>k=rB) wx wy)(hb:Blk wy rB R'):Fm w wy gB aB rB tB g A R' T:=by
 obtain⟨l1,l2,l3,l4,l5⟩:=h.lt;exact⟨h.gb.only ho (by omega),h.ab.only ho (by omega),hb,h.tb.only ho (by omega),h.bel.trans (ho.below h.bel.size fun k hk=>by omega),l1,l2,l3,l4,Nat.lt_of_lt_of_le l5 ho.size⟩
theorem Fm.setT{wx wy:World}{gB aB rB tB:Nat}{g:Pl.Gm}{A R T T':List Value}(h:Fm w wx gB aB rB tB g A R T)(ho:Only (fun k=>k=tB) wx wy)(hb:Blk wy tB T'):Fm w wy gB aB rB tB g A R T':=by
 obtain⟨l1,l2,l3,l4,l5⟩:=h.lt;exact⟨h.gb.only ho (by omega),h.ab.only ho (by omega),h.rb.only ho (by omega),hb,h.bel.trans (ho.below h.bel.size fun k hk=>by omega),l1,l2,l3,l4,Nat.lt_of_lt_of_le l5 ho.size⟩
theorem Fault.onlyB{n:Int}(h:Fault w n v)(ho:Only (fun k=>k=g) w w')(hb:Blk w g L)(hL:∀t,L[0]? ≠ some (.string t)):Fault w' n v:=by
 obtain⟨T,d,t,ts,e,hc⟩:=h;refine⟨T,d,t,ts,e,hc.onlyZ ho fun q hq=>?_⟩;have:=hb.has_cell hq;exact hL q this
def Ji1(B:Nat)(wx:World)(q:Int)(r:Option (List It))(k:Nat)(ok:Bool):Prop:=(r=none∧ok=false)∨∃ia n1 c1 aa c2 pl,r=some (pl.map (·.1))∧ok=true∧n1=pl.length∧Blk wx k [.slice ia n1 c1,.slice aa n1 c2,.int .i64 (Jf q (pl.map (·.1))).1.length,.int .i64 (parts pl.length)]∧ItemsAt wx (.slice ia n1 c1) pl∧IntsAt wx (.slice aa n1 c2) (Jf q (pl.map (·.1))).2∧(∀j,Value.ownBlock (.slice aa n1 c2)=some j→B≤j∧j<wx.heap.size)∧Fresh B (.slice ia n1 c1)∧∀x∈pl,Fresh B x.2
def J9n(B:Nat)(g:Pl.Gm)(a:Ja)(fv:Value)(r:Option (List It))(e:Ending)(w':World):Prop :=
 (r=none∧∃v,e=.returned (.tuple #[.agg #[.slice none 0 0,.slice none 0 0],.agg #[.int .i64 0,.int .i64 0,.int .u32 0,.slice none 0 0],v])∧Fault w' 17 v) ∨
 ∃l ia n1 c1 aa n2 c2 pl,r=some l∧e=.returned (.tuple #[.agg #[.slice ia n1 c1,.slice aa n2 c2],.agg #[.int .i64 a.seg,.int .i64 (a.off+(Jf a.seq l).1.length),.int .u32 ((a.seq+Kh l)%M32),fv],.nilIface])∧pl.map (·.1)=l∧ItemsAt w' (.slice ia n1 c1) pl∧IntsAt w' (.slice aa n2 c2) (pOf g a a l)∧(∀j,Value.ownBlock (.slice aa n2 c2)=some j→B≤j)∧Fresh B (.slice ia n1 c1)∧∀x∈pl,Fresh B x.2
theorem Jdc{x y:Int}(h:y≤x):∃n:Nat,(x-y).toNat=n∧x-y=(n:Int):=⟨_,rfl,by omega⟩
theorem IntsAt.own_lt(h:IntsAt w sv l)(hl:0<l.length):∀j,sv.ownBlock=some j→j<w.heap.size:=fun j hj=>by
 obtain⟨b,o,cap,e,hc⟩:=h.has hl;subst e;have:b<w.heap.size:=block_lt_of_cell (hc 0 _ (List.getElem?_eq_getElem hl));simp [Value.ownBlock] at hj;omega
section
variable {W w:World} {b:Nat} {F:Nat→Prop} {d:De.D} {g:Pl.Gm} {a:Ja} {fv:Value}
theorem jE(h:De.Dv W w b F d)(hX:Img d X)(hLn:d.L.length≤1000000)(hbig:X.length≤1024)(hg:a.good g=true)(hq:Km a.seq)(ht:4+g.s*g.l≤(X.length:Int))(hf:IntsAt w fv a.free) :
 Calls Tryz.prog 159 #[.pointer (some ⟨b,0,none⟩),g.v,.agg #[.int .i64 a.seg,.int .i64 a.off,.int .u32 a.seq,fv]] w fun e w'=>J9n w.heap.size g a fv (gAt X g a) e w'∧Below w.heap.size w w':=by
 obtain⟨hgo,hsg,ho1,ho2,-⟩:=Ja.good_parts hg;have hl32:=hgo.2.2.1.2;obtain⟨hfn,hf4⟩:=QH hg;have hsl:a.seg*g.l≤(g.s-1)*g.l:=Int.mul_le_mul_of_nonneg_right (by omega) (by omega);rw [Int.sub_mul,Int.one_mul] at hsl;have hs0:0≤a.seg*g.l:=Int.mul_nonneg hsg.1 (by omega);obtain⟨n,hn,hn2⟩:=Jdc ho2;have hgr:gAt X g a=X3 a.seq ((X.drop (J8 g a).toNat).take n):=by unfold gAt;rw [hn]
 have HFO:Hid (J8 g a=(((J8 g a).toNat:Nat):Int)):=Zh (by unfold J8 at hfn ⊢;omega);obtain⟨f,hff⟩:∃f,(J8 g a).toNat=f:=⟨_,rfl⟩
 rw [hff] at hfn hf4 hgr HFO;have hfl:f+n≤X.length:=by omega
 obtain⟨L,hL⟩:∃L,(X.drop f).take n=L:=⟨_,rfl⟩
 have hLl:L.length=n:=by rw [←hL,List.length_take,List.length_drop];omega
 rw [hL] at hgr;have HSE:Hid (∀w',Below w.heap.size w w'→Calls Tryz.prog 177 #[.pointer (some ⟨b,0,none⟩),.int .i64 f,.int .i64 n] w' fun e w''=>∃sv,e=.returned sv∧SecsAt w'' sv L∧Below w'.heap.size w' w''):=Zh fun w' hb=>by
  rw [←hL];exact qy (h.below hb) hX hLn f n (by omega) hfl (by omega)
 have HRG:Hid (∀w' sv,SecsAt w' sv L→Calls Tryz.prog 176 #[.int .u32 a.seq,sv] w' fun e w''=>zp w'.heap.size a.seq (X3 a.seq L) e w''∧Below w'.heap.size w' w''):=Zh fun w' sv hs=>J5n a.seq hq L n hLl (by omega) sv w' hs;have HLN:=Zh hLl;rw [hgr];obtain⟨r,hr⟩:∃r,X3 a.seq L=r:=⟨_,rfl⟩
 rw [hr] at HRG ⊢;have HMB:Hid (∀l,r=some l→JJ l=true):=Zh fun l e=>by rw [e] at hr;exact (QE hr).1
 have HSG:=Zh fun w'=>Pl.J77 g hgo a.seg ⟨hsg.1,by omega⟩ w';have gw:Hid (IntKind.i64.wrap (4+a.seg*g.l+a.off)=(f:Int)):=Zh (by rw [hfn];exact JB (by omega) (by omega));have gw1:Hid (IntKind.i64.wrap (g.l-a.off)=(n:Int)):=Zh (by rw [hn2];exact JB (by omega) (by omega));have gw2:Hid (∀k:Nat,k≤1000→IntKind.i64.wrap (a.off+(k:Int))=a.off+(k:Int)):=Zh fun k hk=>JB (by omega) (by omega);have gw3:Hid (∀k:Nat,k≤1000→IntKind.u32.wrap (k:Int)=(k:Int)):=Zh fun k hk=>j7 (by omega) (by omega);have gw4:Hid (∀k:Nat,IntKind.u32.wrap (a.seq+(k:Int))=(a.seq+(k:Int))%M32):=Zh fun k=>by rw [IntKind.wrap_u32];rfl
 have HFS:Hid ((0:Int)≤(f:Int)∧(f:Int)≤2000):=Zh (by omega);have HNF:=Zh fun s w=>QF 17 rfl s w;have HFV:=Zh hf;obtain⟨fa,fc,hfv⟩:=hf.form;obtain⟨m,hm⟩:∃m,a.free.length=m:=⟨_,rfl⟩
 rw [hm] at hfv;subst hfv;clear h hX hLn hbig hg hq ht hf hgo hsg ho1 ho2 hl32 hfn hf4 hsl hs0 hn hn2 hgr hff hfl hL hLl hr hm;go_enter Tryz.func159,Tryz.ntmps159;go_upto_region 0 with fail;refine Zl ?_;refine JR (cs:=#[.int .i64 g.p,.int .i64 g.s,.int .i64 g.l,.int .i64 g.f]) rfl rfl ?_;intro w1 hG hb1 hl1;refine nm ?_;refine JR (cs:=#[.int .i64 a.seg,.int .i64 a.off,.int .u32 a.seq,.slice fa m fc]) rfl rfl ?_;intro w2 hA hb2 hl2;refine nm ?_;refine J4 Xz rfl ?_;intro w3 hR hb3 hl3;refine nm ?_;refine J4 Q2 rfl ?_;intro w4 hT hb4 hl4;refine nm ?_;have HM4:Hid (Fm w w4 w.heap.size w1.heap.size w2.heap.size w3.heap.size g [.int .i64 a.seg,.int .i64 a.off,.int .u32 a.seq,.slice fa m fc] [.slice none 0 0,.slice none 0 0] [.int .i64 0,.int .i64 0,.int .u32 0,.slice none 0 0]):=Zh (by
  have b3:=hb3.trans (hb4.mono hb3.size)
  have b2:=hb2.trans (b3.mono hb2.size)
  exact⟨hG.below b2 hG.lt,hA.below b3 hA.lt,hR.below hb4 hR.lt,hT,hb1.trans (b2.mono hb1.size),Nat.le_refl _,hl1,hl2,hl3,hl4⟩)
 have HB4:Hid (Below w.heap.size w w4):=Zh HM4.bel;clear hG hb1 hl1 hA hb2 hl2 hR hb3 hl3 hT hb4 hl4;obtain⟨gB,hgB⟩:∃k,w.heap.size=k:=⟨_,rfl⟩
 rw [hgB];have HGB:=Zh hgB;have HM:Hid (Fm w w4 gB w1.heap.size w2.heap.size w3.heap.size g [.int .i64 a.seg,.int .i64 a.off,.int .u32 a.seq,.slice fa m fc] [.slice none 0 0,.slice none 0 0] [.int .i64 0,.int .i64 0,.int .u32 0,.slice none 0 0]):=Zh (by rw [←HGB.out];exact HM4.out);clear hgB HM4;generalize w1.heap.size=aB at *;generalize w2.heap.size=rB at *;generalize w3.heap.size=tB at *;refine tk (.nilIface) ?_;go_upto_region 1 with fail
 go_cut [9] from 12 to 19 (fun s wx=>s=.int .i64 (f:Int)∧Below w4.heap.size w4 wx)
 case first =>
  refine J9 (fun wq=>Below w4.heap.size w4 wq) (by kernel_rfl) ?_;have HSd:Hid (Below w4.heap.size w4 w4.drew):=Zh (Below.refl _ _).drew;refine th 0 12 (.agg #[.int .i64 g.p,.int .i64 g.s,.int .i64 g.l,.int .i64 g.f]) HSd.out ?_ (hy:=fun wq hS=>by have q:=HM.gb.below hS HM.gb.lt;have q0:=q.cell (i:=0) rfl;have q1:=q.cell (i:=1) rfl;have q2:=q.cell (i:=2) rfl;have q3:=q.cell (i:=3) rfl;go_simp);refine th 1 13 (.pointer (some ⟨aB,0,none⟩)) HSd.out ?_;refine th 2 14 (.int .i64 a.seg) HSd.out ?_ (hy:=fun wq hS=>by have q:=(HM.ab.below hS HM.ab.lt).cell (i:=0) rfl;go_simp);refine th 4 16 (.pointer (some ⟨aB,1,none⟩)) HSd.out ?_;refine th 5 17 (.int .i64 a.off) HSd.out ?_ (hy:=fun wq hS=>by have q:=(HM.ab.below hS HM.ab.lt).cell (i:=1) rfl;go_simp);refine Zo 3 fun K hK=>?_;go_simp;refine (HSG.out _).mono ?_;rintro e w5 ⟨rfl,hb⟩;have HS5:=Zh (Jr HSd.out hb);refine hK _ _ HS5.out ?_;clear hK K hb;refine nm ?_;refine th 6 18 (.int .i64 (f:Int)) HS5.out ?_ (hy:=fun wq hS=>by have q:=gw.out;go_simp);refine th 7 9 (.int .i64 (f:Int)) HS5.out ?_;refine Zd ?_
  go_wp2_with fail
  go_meet
  exact⟨rfl,HS5.out⟩
 case rest =>
 obtain⟨rfl,hb⟩:=hcut;have HM5:=Zh (HM.below hb);have HB4:=Zh (Jr HB4.out hb);clear HM hb;go_upto_region 2 with fail
 go_cut [10,11] from 20 to 33 (fun s10 s11 wx=>∃kB ok,s10=.pointer (some ⟨kB,0,none⟩)∧s11=.bool ok∧Below wc.heap.size wc wx∧wc.heap.size≤kB∧Ji1 wc.heap.size wx a.seq r kB ok∧∃L,Blk wx kB L∧L.length=4)
 case first =>
  refine J9 (fun wq=>Below wc.heap.size wc wq) (by kernel_rfl) ?_;have HSd:Hid (Below wc.heap.size wc wc.drew):=Zh (Below.refl _ _).drew;refine th 0 20 (.pointer (some ⟨aB,2,none⟩)) HSd.out ?_;refine th 1 21 (.int .u32 a.seq) HSd.out ?_ (hy:=fun wq hS=>by have q:=(HM5.ab.below hS HM5.ab.lt).cell (i:=2) rfl;go_simp);refine th 2 22 (.pointer (some ⟨b,0,none⟩)) HSd.out ?_;refine th 3 23 (.int .i64 (f:Int)) HSd.out ?_;refine th 4 24 (.pointer (some ⟨gB,2,none⟩)) HSd.out ?_;refine th 5 25 (.int .i64 g.l) HSd.out ?_ (hy:=fun wq hS=>by have q:=(HM5.gb.below hS HM5.gb.lt).cell (i:=2) rfl;go_simp);refine th 6 26 (.pointer (some ⟨aB,1,none⟩)) HSd.out ?_;refine th 7 27 (.int .i64 a.off) HSd.out ?_ (hy:=fun wq hS=>by have q:=(HM5.ab.below hS HM5.ab.lt).cell (i:=1) rfl;go_simp);refine th 8 28 (.int .i64 (n:Int)) HSd.out ?_ (hy:=fun wq hS=>by have q:=gw1.out;go_simp);generalize wc.drew=wS at *;refine Zu 9 14 (by kernel_rfl) rfl rfl rfl rfl (fun K hK=>?_) (fun K hK=>?_)
  · go_simp;refine (HSE.out wS (Jr HB4.out HSd.out)).mono ?_;rintro e v1 ⟨sv,rfl,hs,hb⟩;have Sv1:=Zh (Jr HSd.out hb);have SSv1:=Zh hs;obtain⟨sa,sc,hsv,-⟩:=id hs;rw [HLN.out] at hsv;subst hsv;refine hK _ _ Sv1.out ?_;clear hK K hb hs;refine nm ?_;refine Zu 10 14 (by kernel_rfl) rfl rfl rfl rfl (fun K hK=>?_) (fun K hK=>?_)
    · go_simp;refine (HRG.out v1 (.slice sa n sc) SSv1.out).mono ?_;rintro e v2 ⟨ho,hb⟩;have Sv2:=Zh (Jr Sv1.out hb);rcases ho with ⟨hr,rfl⟩|⟨iv,pl,av,hr,rfl,hi,ha,hj,hf1,hf2⟩
      · have HRN:=Zh hr;refine hK _ _ Sv2.out ?_;clear hK K hb hr;refine nm ?_;refine th 11 19 (.tuple #[.agg #[.slice none 0 0,.slice none 0 0,.int .i64 0,.int .i64 0],.bool false]) Sv2.out ?_;refine th 12 31 (.agg #[.slice none 0 0,.slice none 0 0,.int .i64 0,.int .i64 0]) Sv2.out ?_;refine th 13 32 (.bool false) Sv2.out ?_;refine Zo 14 fun K hK=>?_;refine Jb (some 10) rfl _ _ (Jy _ _ _ 314 rfl _ ZI) ?_;have hb:=(Below.refl v2.heap.size v2).alloc (Nat.le_refl _) (.cells #[.slice none 0 0,.slice none 0 0,.int .i64 0,.int .i64 0] 314);have hkb:=Blk.new v2 #[.slice none 0 0,.slice none 0 0,.int .i64 0,.int .i64 0] 314;have Sv3:=Zh (Jr Sv2.out hb);have Kv3:=Zh hkb;have KL:Hid (wc.heap.size≤v2.heap.size):=Zh Sv2.size;refine hK _ _ Sv3.out ?_;clear hK K hb hkb;generalize v2.alloc (.cells #[.slice none 0 0,.slice none 0 0,.int .i64 0,.int .i64 0] 314)=v3 at *;generalize v2.heap.size=kB at *;refine nm ?_;refine Zo 15 fun K hK=>?_;refine JA 314 _ _ rfl kB #[.slice none 0 0,.slice none 0 0,.int .i64 0,.int .i64 0] rfl rfl _ Kv3.out rfl Qf (Qr none none 0 0 0 0 0 0) ?_;intro wz hD hO;have SZ:Hid (Below wc.heap.size wc wz):=Zh (Sv3.trans (hO.below Sv3.size fun k hk=>by rw [hk];exact KL.out));have HD:=Zh hD;refine hK _ _ SZ.out ?_;clear hK K hD hO;refine nm ?_;refine th 16 11 (.bool false) SZ.out ?_;refine Zd ?_
        go_wp2_with fail
        go_meet
        exact⟨kB,false,rfl,rfl,SZ.out,KL.out,.inl ⟨HRN.out,rfl⟩,⟨_,HD.out,rfl⟩⟩
      · have HRN:=Zh hr;obtain⟨ia,c1,hiv⟩:=Q7 hi;obtain⟨aa,c2,hav⟩:=ha.form;obtain⟨n1,hn1⟩:∃m,pl.length=m:=⟨_,rfl⟩
        rw [hn1] at hiv;subst hiv;rw [Qv,List.length_map,hn1] at hav;subst hav;have HN1:Hid (n1=pl.length):=Zh hn1.symm;have HI:=Zh hi;have HN:=Zh ha;have HFF:Hid (Fresh wc.heap.size (.slice ia n1 c1)∧∀x∈pl,Fresh wc.heap.size x.2):=Zh ⟨fun b o n c e=>Nat.le_trans Sv1.size (hf1 b o n c e),fun x hx b o n c e=>Nat.le_trans Sv1.size (hf2 x hx b o n c e)⟩;clear hf1 hf2;have HJ:Hid (∀j,Value.ownBlock (.slice aa n1 c2)=some j→wc.heap.size≤j∧v1.heap.size≤j∧j<v2.heap.size):=Zh fun j hj2=>⟨Nat.le_trans Sv1.size (hj j hj2),hj j hj2,ha.own_lt (by rw [Qv];exact (JP.1 (HMB.out _ hr)).1) j hj2⟩
        refine hK _ _ Sv2.out ?_;clear hK K hb hr hi ha hj hn1;refine nm ?_;refine th 11 19 (.tuple #[.agg #[.slice ia n1 c1,.slice aa n1 c2,.int .i64 (Jf a.seq (pl.map (·.1))).1.length,.int .i64 (parts pl.length)],.bool true]) Sv2.out ?_;refine th 12 31 (.agg #[.slice ia n1 c1,.slice aa n1 c2,.int .i64 (Jf a.seq (pl.map (·.1))).1.length,.int .i64 (parts pl.length)]) Sv2.out ?_;refine th 13 32 (.bool true) Sv2.out ?_;refine Zo 14 fun K hK=>?_;refine Jb (some 10) rfl _ _ (Jy _ _ _ 314 rfl _ ZI) ?_;have hb:=(Below.refl v2.heap.size v2).alloc (Nat.le_refl _) (.cells #[.slice none 0 0,.slice none 0 0,.int .i64 0,.int .i64 0] 314);have hkb:=Blk.new v2 #[.slice none 0 0,.slice none 0 0,.int .i64 0,.int .i64 0] 314;have Sv4:=Zh (Jr Sv2.out hb);have Kv4:=Zh hkb;have KL:Hid (wc.heap.size≤v2.heap.size):=Zh Sv2.size;have HJk:Hid (∀j,Value.ownBlock (.slice aa n1 c2)=some j→j≠v2.heap.size∧wc.heap.size≤j∧j<(v2.alloc (.cells #[.slice none 0 0,.slice none 0 0,.int .i64 0,.int .i64 0] 314)).heap.size):=Zh fun j hj=>by have h1:=HJ.out j hj;have h2:=hb.size;omega
        have HI2:=Zh (HI.below hb);have HN2:=Zh (HN.below hb);refine hK _ _ Sv4.out ?_;clear hK K hb hkb;generalize v2.alloc (.cells #[.slice none 0 0,.slice none 0 0,.int .i64 0,.int .i64 0] 314)=v4 at *;generalize v2.heap.size=kB at *;refine nm ?_;refine Zo 15 fun K hK=>?_;refine JA 314 _ _ rfl kB #[.slice ia n1 c1,.slice aa n1 c2,.int .i64 (Jf a.seq (pl.map (·.1))).1.length,.int .i64 (parts pl.length)] rfl rfl _ Kv4.out rfl Qf (Qr _ _ _ _ _ _ _ _) ?_;intro wz hD hO;have SZ:Hid (Below wc.heap.size wc wz):=Zh (Sv4.trans (hO.below Sv4.size fun k hk=>by rw [hk];exact KL.out));have HD:=Zh hD;have HIz:=Zh (HI2.only Kv4.out (J36 none none 0 0 0 0 0 0) hO);have HNz:=Zh (HN2.only hO fun b o n c e=>(HJk.out b (by rw [e];rfl)).1);have HJz:Hid (∀j,Value.ownBlock (.slice aa n1 c2)=some j→wc.heap.size≤j∧j<wz.heap.size):=Zh fun j hj=>by have h1:=HJk.out j hj;have h2:=hO.size;omega
        refine hK _ _ SZ.out ?_;clear hK K hD hO;refine nm ?_;refine th 16 11 (.bool true) SZ.out ?_;refine Zd ?_
        go_wp2_with fail
        go_meet
        exact⟨kB,true,rfl,rfl,SZ.out,KL.out,.inr ⟨ia,n1,c1,aa,c2,pl,HRN.out,rfl,HN1.out,HD.out,HIz.out,HNz.out,HJz.out,HFF.out.1,HFF.out.2⟩,⟨_,HD.out,rfl⟩⟩
    · refine Jb (some 10) rfl _ _ (Jy _ _ _ 314 rfl _ ZI) ?_;have hb:=(Below.refl v1.heap.size v1).alloc (Nat.le_refl _) (.cells #[.slice none 0 0,.slice none 0 0,.int .i64 0,.int .i64 0] 314);have hkb:=Blk.new v1 #[.slice none 0 0,.slice none 0 0,.int .i64 0,.int .i64 0] 314;have Sv5:=Zh (Jr Sv1.out hb);have Kv5:=Zh hkb;have KL:Hid (wc.heap.size≤v1.heap.size):=Zh Sv1.size;have SSv5:=Zh (SSv1.below hb);refine hK _ _ Sv5.out ?_;clear hK K hb hkb;generalize v1.alloc (.cells #[.slice none 0 0,.slice none 0 0,.int .i64 0,.int .i64 0] 314)=v5 at *;generalize v1.heap.size=kB at *;refine nm ?_;refine Zo 10 fun K hK=>?_;go_simp;refine (HRG.out v5 (.slice sa n sc) SSv5.out).mono ?_;rintro e v6 ⟨ho,hb⟩;have Sv6:=Zh (Jr Sv5.out hb);have Kv6:=Zh (Kv5.below hb Kv5.lt);rcases ho with ⟨hr,rfl⟩|⟨iv,pl,av,hr,rfl,hi,ha,hj,hf1,hf2⟩
      · have HRN:=Zh hr;refine hK _ _ Sv6.out ?_;clear hK K hb hr;refine nm ?_;refine th 11 19 (.tuple #[.agg #[.slice none 0 0,.slice none 0 0,.int .i64 0,.int .i64 0],.bool false]) Sv6.out ?_;refine th 12 31 (.agg #[.slice none 0 0,.slice none 0 0,.int .i64 0,.int .i64 0]) Sv6.out ?_;refine th 13 32 (.bool false) Sv6.out ?_;refine Zo 15 fun K hK=>?_;refine JA 314 _ _ rfl kB #[.slice none 0 0,.slice none 0 0,.int .i64 0,.int .i64 0] rfl rfl _ Kv6.out rfl Qf (Qr none none 0 0 0 0 0 0) ?_;intro wz hD hO;have SZ:Hid (Below wc.heap.size wc wz):=Zh (Sv6.trans (hO.below Sv6.size fun k hk=>by rw [hk];exact KL.out));have HD:=Zh hD;refine hK _ _ SZ.out ?_;clear hK K hD hO;refine nm ?_;refine th 16 11 (.bool false) SZ.out ?_;refine Zd ?_
        go_wp2_with fail
        go_meet
        exact⟨kB,false,rfl,rfl,SZ.out,KL.out,.inl ⟨HRN.out,rfl⟩,⟨_,HD.out,rfl⟩⟩
      · have HRN:=Zh hr;obtain⟨ia,c1,hiv⟩:=Q7 hi;obtain⟨aa,c2,hav⟩:=ha.form;obtain⟨n1,hn1⟩:∃m,pl.length=m:=⟨_,rfl⟩
        rw [hn1] at hiv;subst hiv;rw [Qv,List.length_map,hn1] at hav;subst hav;have HN1:Hid (n1=pl.length):=Zh hn1.symm;have HI:=Zh hi;have HN:=Zh ha;have HFF:Hid (Fresh wc.heap.size (.slice ia n1 c1)∧∀x∈pl,Fresh wc.heap.size x.2):=Zh ⟨fun b o n c e=>Nat.le_trans Sv5.size (hf1 b o n c e),fun x hx b o n c e=>Nat.le_trans Sv5.size (hf2 x hx b o n c e)⟩;clear hf1 hf2;have HJ:Hid (∀j,Value.ownBlock (.slice aa n1 c2)=some j→wc.heap.size≤j∧v5.heap.size≤j∧j<v6.heap.size):=Zh fun j hj2=>⟨Nat.le_trans Sv5.size (hj j hj2),hj j hj2,ha.own_lt (by rw [Qv];exact (JP.1 (HMB.out _ hr)).1) j hj2⟩
        refine hK _ _ Sv6.out ?_;clear hK K hb hr hi ha hj hn1;refine nm ?_;refine th 11 19 (.tuple #[.agg #[.slice ia n1 c1,.slice aa n1 c2,.int .i64 (Jf a.seq (pl.map (·.1))).1.length,.int .i64 (parts pl.length)],.bool true]) Sv6.out ?_;refine th 12 31 (.agg #[.slice ia n1 c1,.slice aa n1 c2,.int .i64 (Jf a.seq (pl.map (·.1))).1.length,.int .i64 (parts pl.length)]) Sv6.out ?_;refine th 13 32 (.bool true) Sv6.out ?_;have HJk:Hid (∀j,Value.ownBlock (.slice aa n1 c2)=some j→j≠kB∧wc.heap.size≤j∧j<v6.heap.size):=Zh fun j hj=>by have h1:=HJ.out j hj;have h2:=Kv5.lt;have h3:=KL.out;omega
        have HI2:=HI;have HN2:=HN;refine Zo 15 fun K hK=>?_;refine JA 314 _ _ rfl kB #[.slice ia n1 c1,.slice aa n1 c2,.int .i64 (Jf a.seq (pl.map (·.1))).1.length,.int .i64 (parts pl.length)] rfl rfl _ Kv6.out rfl Qf (Qr _ _ _ _ _ _ _ _) ?_;intro wz hD hO;have SZ:Hid (Below wc.heap.size wc wz):=Zh (Sv6.trans (hO.below Sv6.size fun k hk=>by rw [hk];exact KL.out));have HD:=Zh hD;have HIz:=Zh (HI2.only Kv6.out (J36 none none 0 0 0 0 0 0) hO);have HNz:=Zh (HN2.only hO fun b o n c e=>(HJk.out b (by rw [e];rfl)).1);have HJz:Hid (∀j,Value.ownBlock (.slice aa n1 c2)=some j→wc.heap.size≤j∧j<wz.heap.size):=Zh fun j hj=>by have h1:=HJk.out j hj;have h2:=hO.size;omega
        refine hK _ _ SZ.out ?_;clear hK K hD hO;refine nm ?_;refine th 16 11 (.bool true) SZ.out ?_;refine Zd ?_
        go_wp2_with fail
        go_meet
        exact⟨kB,true,rfl,rfl,SZ.out,KL.out,.inr ⟨ia,n1,c1,aa,c2,pl,HRN.out,rfl,HN1.out,HD.out,HIz.out,HNz.out,HJz.out,HFF.out.1,HFF.out.2⟩,⟨_,HD.out,rfl⟩⟩
  · refine Jb (some 10) rfl _ _ (Jy _ _ _ 314 rfl _ ZI) ?_;have hb:=(Below.refl wS.heap.size wS).alloc (Nat.le_refl _) (.cells #[.slice none 0 0,.slice none 0 0,.int .i64 0,.int .i64 0] 314);have hkb:=Blk.new wS #[.slice none 0 0,.slice none 0 0,.int .i64 0,.int .i64 0] 314;have Sv7:=Zh (Jr HSd.out hb);have Kv7:=Zh hkb;have KL:Hid (wc.heap.size≤wS.heap.size):=Zh HSd.size;refine hK _ _ Sv7.out ?_;clear hK K hb hkb;generalize wS.alloc (.cells #[.slice none 0 0,.slice none 0 0,.int .i64 0,.int .i64 0] 314)=v7 at *;generalize wS.heap.size=kB at *;refine nm ?_;refine Zo 9 fun K hK=>?_;go_simp;refine (HSE.out v7 (Jr HB4.out Sv7.out)).mono ?_;rintro e v8 ⟨sv,rfl,hs,hb⟩;have Sv8:=Zh (Jr Sv7.out hb);have SSv8:=Zh hs;have Kv8:=Zh (Kv7.below hb Kv7.lt);obtain⟨sa,sc,hsv,-⟩:=id hs;rw [HLN.out] at hsv;subst hsv;refine hK _ _ Sv8.out ?_;clear hK K hb hs;refine nm ?_;refine Zo 10 fun K hK=>?_;go_simp;refine (HRG.out v8 (.slice sa n sc) SSv8.out).mono ?_;rintro e v9 ⟨ho,hb⟩;have Sv9:=Zh (Jr Sv8.out hb);have Kv9:=Zh (Kv8.below hb Kv8.lt);rcases ho with ⟨hr,rfl⟩|⟨iv,pl,av,hr,rfl,hi,ha,hj,hf1,hf2⟩
    · have HRN:=Zh hr;refine hK _ _ Sv9.out ?_;clear hK K hb hr;refine nm ?_;refine th 11 19 (.tuple #[.agg #[.slice none 0 0,.slice none 0 0,.int .i64 0,.int .i64 0],.bool false]) Sv9.out ?_;refine th 12 31 (.agg #[.slice none 0 0,.slice none 0 0,.int .i64 0,.int .i64 0]) Sv9.out ?_;refine th 13 32 (.bool false) Sv9.out ?_;refine Zo 15 fun K hK=>?_;refine JA 314 _ _ rfl kB #[.slice none 0 0,.slice none 0 0,.int .i64 0,.int .i64 0] rfl rfl _ Kv9.out rfl Qf (Qr none none 0 0 0 0 0 0) ?_;intro wz hD hO;have SZ:Hid (Below wc.heap.size wc wz):=Zh (Sv9.trans (hO.below Sv9.size fun k hk=>by rw [hk];exact KL.out));have HD:=Zh hD;refine hK _ _ SZ.out ?_;clear hK K hD hO;refine nm ?_;refine th 16 11 (.bool false) SZ.out ?_;refine Zd ?_
      go_wp2_with fail
      go_meet
      exact⟨kB,false,rfl,rfl,SZ.out,KL.out,.inl ⟨HRN.out,rfl⟩,⟨_,HD.out,rfl⟩⟩
    · have HRN:=Zh hr;obtain⟨ia,c1,hiv⟩:=Q7 hi;obtain⟨aa,c2,hav⟩:=ha.form;obtain⟨n1,hn1⟩:∃m,pl.length=m:=⟨_,rfl⟩
      rw [hn1] at hiv;subst hiv;rw [Qv,List.length_map,hn1] at hav;subst hav;have HN1:Hid (n1=pl.length):=Zh hn1.symm;have HI:=Zh hi;have HN:=Zh ha;have HFF:Hid (Fresh wc.heap.size (.slice ia n1 c1)∧∀x∈pl,Fresh wc.heap.size x.2):=Zh ⟨fun b o n c e=>Nat.le_trans Sv8.size (hf1 b o n c e),fun x hx b o n c e=>Nat.le_trans Sv8.size (hf2 x hx b o n c e)⟩;clear hf1 hf2;have HJ:Hid (∀j,Value.ownBlock (.slice aa n1 c2)=some j→wc.heap.size≤j∧v8.heap.size≤j∧j<v9.heap.size):=Zh fun j hj2=>⟨Nat.le_trans Sv8.size (hj j hj2),hj j hj2,ha.own_lt (by rw [Qv];exact (JP.1 (HMB.out _ hr)).1) j hj2⟩
      refine hK _ _ Sv9.out ?_;clear hK K hb hr hi ha hj hn1;refine nm ?_;refine th 11 19 (.tuple #[.agg #[.slice ia n1 c1,.slice aa n1 c2,.int .i64 (Jf a.seq (pl.map (·.1))).1.length,.int .i64 (parts pl.length)],.bool true]) Sv9.out ?_;refine th 12 31 (.agg #[.slice ia n1 c1,.slice aa n1 c2,.int .i64 (Jf a.seq (pl.map (·.1))).1.length,.int .i64 (parts pl.length)]) Sv9.out ?_;refine th 13 32 (.bool true) Sv9.out ?_;have HJk:Hid (∀j,Value.ownBlock (.slice aa n1 c2)=some j→j≠kB∧wc.heap.size≤j∧j<v9.heap.size):=Zh fun j hj=>by have h1:=HJ.out j hj;have h2:=Kv8.lt;have h3:=KL.out;omega
      have HI2:=HI;have HN2:=HN;refine Zo 15 fun K hK=>?_;refine JA 314 _ _ rfl kB #[.slice ia n1 c1,.slice aa n1 c2,.int .i64 (Jf a.seq (pl.map (·.1))).1.length,.int .i64 (parts pl.length)] rfl rfl _ Kv9.out rfl Qf (Qr _ _ _ _ _ _ _ _) ?_;intro wz hD hO;have SZ:Hid (Below wc.heap.size wc wz):=Zh (Sv9.trans (hO.below Sv9.size fun k hk=>by rw [hk];exact KL.out));have HD:=Zh hD;have HIz:=Zh (HI2.only Kv9.out (J36 none none 0 0 0 0 0 0) hO);have HNz:=Zh (HN2.only hO fun b o n c e=>(HJk.out b (by rw [e];rfl)).1);have HJz:Hid (∀j,Value.ownBlock (.slice aa n1 c2)=some j→wc.heap.size≤j∧j<wz.heap.size):=Zh fun j hj=>by have h1:=HJk.out j hj;have h2:=hO.size;omega
      refine hK _ _ SZ.out ?_;clear hK K hD hO;refine nm ?_;refine th 16 11 (.bool true) SZ.out ?_;refine Zd ?_
      go_wp2_with fail
      go_meet
      exact⟨kB,true,rfl,rfl,SZ.out,KL.out,.inr ⟨ia,n1,c1,aa,c2,pl,HRN.out,rfl,HN1.out,HD.out,HIz.out,HNz.out,HJz.out,HFF.out.1,HFF.out.2⟩,⟨_,HD.out,rfl⟩⟩
 case rest =>
 obtain⟨kB,ok,rfl,rfl,hb,hk,hr,-⟩:=hcut;have HM6:=Zh (HM5.below hb);have HB6:=Zh (Jr HB4.out hb);have HF6:=Zh (HFV.below HB6.out);have HKB:=Zh hk;have HML:=Zh HM5.lt.2.2.2.2;have hcs:=hb.size;clear hb hk HM5 HB4 HFV;rcases hr with ⟨hr,rfl⟩|⟨ia,n1,c1,aa,c2,pl,hr,rfl,hn1,hkb,hi,ha,hj,hfi⟩
 · have HRN:=Zh hr;clear hr hcs;go_upto_region 4 with fail;refine Zl ?_;refine Jh (run_build _ 214 _ _ J5o) rfl ?_;refine nm ?_;refine Jh (run_build _ 58 _ _ zd) rfl ?_;refine nm ?_;refine J0 rfl fun K hK=>?_;go_simp;refine (HNF.out _ _).mono ?_;rintro e w7 ⟨v,rfl,hf,hb⟩;have HF7:=Zh hf;have HM7:=Zh (HM6.below hb);clear hf hb HM6 HB6 HF6;refine hK _ _ (nm ?_);clear hK K;refine J3 (cs:=#[.slice none 0 0,.slice none 0 0]) HM7.rb rfl KE (XG none none 0 0 0 0) rfl rfl rfl ?_;intro w8 hD hO hlD;have HF8:=Zh (HF7.onlyB hO HM7.rb (fun t=>by simp));have HM8:=Zh (HM7.setR hO hD);clear hD hO hlD HF7 HM7;refine nm ?_;refine J3 (cs:=#[.int .i64 0,.int .i64 0,.int .u32 0,.slice none 0 0]) HM8.tb rfl JG (Kj _ _ _ _ _ _) rfl rfl rfl ?_;intro w9 hD hO hlD;have HF9:=Zh (HF8.onlyB hO HM8.tb (fun t=>by simp));have HM9:=Zh (HM8.setT hO hD);clear hD hO hlD HF8 HM8;refine nm ?_;obtain⟨T,dd,hv⟩:=HF9.shape;subst hv;refine tk (.iface T dd) ?_;go_wp2_with fail
   refine bodyPost_ret (v:=.tuple #[.agg #[.slice none 0 0,.slice none 0 0],.agg #[.int .i64 0,.int .i64 0,.int .u32 0,.slice none 0 0],.iface T dd]) (Qm rfl _ _ rB tB #[.slice none 0 0,.slice none 0 0] #[.int .i64 0,.int .i64 0,.int .u32 0,.slice none 0 0] _ _ (.iface T dd) rfl rfl rfl Tryz.underlying214 Tryz.underlying58 rfl rfl KE JG (HM9.rb.all rfl) (HM9.tb.all rfl)) rfl ⟨.inl ⟨HRN.out,_,rfl,HF9.out⟩,HGB.out ▸ HM9.bel⟩
 · have HRN:=Zh hr;have hmb:=HMB.out _ hr;have HN1:=Zh hn1;have HK6:=Zh hkb;have HI6:=Zh hi;have HA6:=Zh ha;have HJ6:=Zh hj;have h64:=(JP.1 hmb).2.1;rw [List.length_map] at h64;have HMAY:=Zh hmb;have HFF:Hid (Fresh gB (.slice ia n1 c1)∧∀x∈pl,Fresh gB x.2):=Zh (by
    have h1:=HM6.lt
    have h2:=HML.out
    exact⟨fun b o n c e=>by have:=hfi.1 b o n c e;omega,fun x hx b o n c e=>by have:=hfi.2 x hx b o n c e;omega⟩)
   clear hfi;obtain⟨k,hk⟩:∃k,(Jf a.seq (pl.map (·.1))).1.length=k:=⟨_,rfl⟩
   have HLK:Hid (k≤1000):=Zh (by
    have h1:=QP a.seq (pl.map (·.1))
    have h2:=X9 (marks (pl.map (·.1)))
    have h3:parts (pl.map (·.1)).length≤3:=(Qk hmb).2
    rw [List.length_map,List.length_map] at h2
    omega)
   have HK:=Zh hk;rw [hk] at HK6;obtain⟨q,hq⟩:∃q,parts pl.length=q:=⟨_,rfl⟩
   rw [hq] at HK6;have HQ:Hid (Kh (pl.map (·.1))=(q:Int)∧q≤3):=Zh (by
    have h3:=(Qk hmb).2
    unfold Kh
    rw [if_pos hmb,←hq]
    rw [List.length_map] at h3 ⊢
    exact⟨rfl,h3⟩)
   have HPL:=Zh fun w' h=>zn (w:=w') (f:Int) (Jf a.seq (pl.map (·.1))).2 (.slice aa n1 c2) h (by rw [Qv,List.length_map];omega) HFS.out (fun x hx=>by
    have h1:=zg hx
    have h2:=HLK.out
    rw [hk] at h1
    omega)
   clear hr hmb hn1 hkb hi ha hj h64 hk hq hcs;go_upto_region 5 with fail;refine Zl ?_;refine tk (.pointer (some ⟨aB,1,none⟩)) ?_;refine tk (.int .i64 a.off) ?_ (hr:=by have q:=HM6.ab.cell (i:=1) rfl;go_simp);refine tk (.pointer (some ⟨kB,2,none⟩)) ?_;refine tk (.int .i64 (k:Int)) ?_ (hr:=by have q:=HK6.cell (i:=2) rfl;go_simp);refine tk (.int .i64 (a.off+(k:Int))) ?_ (hr:=by have q:=gw2.out k HLK.out;go_simp);refine tk (.pointer (some ⟨aB,1,none⟩)) ?_;refine Xu (wc.setCell ⟨aB,1,none⟩ (.int .i64 (a.off+(k:Int)))) rfl (by have q:=HM6.ab.cell (i:=1) rfl;have fz:=HM6.ab.frozen 1;go_simp) ?_;have HNEK:Hid (aB≠kB∧rB≠kB∧tB≠kB):=Zh (by have h1:=HM6.lt;have h2:=HKB.out;have h3:=HML.out;omega);have HO7:Hid (Only (fun j=>j=aB) wc (wc.setCell ⟨aB,1,none⟩ (.int .i64 (a.off+(k:Int))))):=Zh ((Only.refl (fun j=>j=aB) wc).setCell (p:=⟨aB,1,none⟩) (.inl rfl) _);have HM7:=Zh (HM6.setA HO7.out (HM6.ab.set 1 (.int .i64 (a.off+(k:Int)))));have HI7:=Zh (HI6.only HM6.ab (qY _ _ _ _ _ _) HO7.out);have HA7:=Zh (HA6.only HO7.out fun b o n c e=>by have h1:=HJ6.out b (by rw [e];rfl);have h2:=HM6.lt;have h3:=HML.out;omega);have HK7:=Zh (HK6.only HO7.out fun e=>HNEK.out.1 e.symm);have HJ7:Hid (∀j,Value.ownBlock (.slice aa n1 c2)=some j→aB<j∧rB<j∧tB<j):=Zh fun j hj=>by have h1:=HJ6.out j hj;have h2:=HM6.lt;have h3:=HML.out;omega
   generalize wc.setCell ⟨aB,1,none⟩ (.int .i64 (a.off+(k:Int)))=w7 at *;clear HO7 HM6 HI6 HA6 HK6 HJ6 HB6 HF6 HSE HRG HSG;refine nm ?_;go_upto_region 6 with fail;refine Zl ?_;refine tk (.pointer (some ⟨aB,2,none⟩)) ?_;refine tk (.int .u32 a.seq) ?_ (hr:=by have q:=HM7.ab.cell (i:=2) rfl;go_simp);refine tk (.pointer (some ⟨kB,3,none⟩)) ?_;refine tk (.int .i64 (q:Int)) ?_ (hr:=by have q:=HK7.cell (i:=3) rfl;go_simp);refine tk (.int .u32 (q:Int)) ?_ (hr:=by have z:=gw3.out q (Nat.le_trans HQ.out.2 (by decide));go_simp);refine tk (.int .u32 ((a.seq+(q:Int))%M32)) ?_ (hr:=by have z:=gw4.out q;go_simp);refine tk (.pointer (some ⟨aB,2,none⟩)) ?_;refine Xu (w7.setCell ⟨aB,2,none⟩ (.int .u32 ((a.seq+(q:Int))%M32))) rfl (by have q:=HM7.ab.cell (i:=2) rfl;have fz:=HM7.ab.frozen 2;go_simp) ?_;have HO8:Hid (Only (fun j=>j=aB) w7 (w7.setCell ⟨aB,2,none⟩ (.int .u32 ((a.seq+(q:Int))%M32)))):=Zh ((Only.refl (fun j=>j=aB) w7).setCell (p:=⟨aB,2,none⟩) (.inl rfl) _);have HM8:=Zh (HM7.setA HO8.out (HM7.ab.set 2 (.int .u32 ((a.seq+(q:Int))%M32))));have HI8:=Zh (HI7.only HM7.ab (qY _ _ _ _ _ _) HO8.out);have HA8:=Zh (HA7.only HO8.out fun b o n c e=>by have h1:=HJ7.out b (by rw [e];rfl);omega);have HK8:=Zh (HK7.only HO8.out fun e=>HNEK.out.1 e.symm);generalize w7.setCell ⟨aB,2,none⟩ (.int .u32 ((a.seq+(q:Int))%M32))=w8 at *;clear HO8 HM7 HI7 HA7 HK7;refine nm ?_;go_upto_region 7 with fail;refine J9 (fun wq=>Only (fun j=>j=rB∨j=tB∨w8.heap.size≤j) w8 wq) (by kernel_rfl) ?_;have HSd:Hid (Only (fun j=>j=rB∨j=tB∨w8.heap.size≤j) w8 w8.drew):=Zh (Only.refl _ _).drew;have HLT:Hid (aB<rB∧rB<tB∧tB<w8.heap.size∧kB<w8.heap.size):=Zh ⟨HM8.lt.2.2.1,HM8.lt.2.2.2.1,HM8.lt.2.2.2.2,HK8.lt⟩;have HAW:Hid (∀wq,Only (fun j=>j=rB∨j=tB∨w8.heap.size≤j) w8 wq→Blk wq aB [.int .i64 a.seg,.int .i64 (a.off+(k:Int)),.int .u32 ((a.seq+(q:Int))%M32),.slice fa m fc]):=Zh fun wq hS=>HM8.ab.only hS (by have:=HLT.out;omega);have HKW:Hid (∀wq,Only (fun j=>j=rB∨j=tB∨w8.heap.size≤j) w8 wq→Blk wq kB [.slice ia n1 c1,.slice aa n1 c2,.int .i64 k,.int .i64 q]):=Zh fun wq hS=>HK8.only hS (by have h1:=HLT.out;have h2:=HNEK.out;omega);have HMd:=Zh (HM8.below (Below.refl _ _).drew);have HId:=Zh (HI8.below (Below.refl _ _).drew);have HAd:=Zh (HA8.below (Below.refl _ _).drew);have HSZ:Hid (w8.drew.heap.size=w8.heap.size):=Zh rfl;generalize w8.drew=wS at *;refine th 0 51 (.pointer (some ⟨kB,0,none⟩)) HSd.out ?_;refine th 1 52 (.slice ia n1 c1) HSd.out ?_ (hy:=fun wq hS=>by have q:=(HKW.out wq hS).cell (i:=0) rfl;go_simp);refine th 2 53 (.int .i64 (f:Int)) HSd.out ?_;refine th 3 54 (.pointer (some ⟨kB,1,none⟩)) HSd.out ?_;refine th 4 55 (.slice aa n1 c2) HSd.out ?_ (hy:=fun wq hS=>by have q:=(HKW.out wq hS).cell (i:=1) rfl;go_simp);refine th 7 58 (.agg #[.int .i64 a.seg,.int .i64 (a.off+(k:Int)),.int .u32 ((a.seq+(q:Int))%M32),.slice fa m fc]) HSd.out ?_ (hy:=fun wq hS=>by have q:=HAW.out wq hS;have q0:=q.cell (i:=0) rfl;have q1:=q.cell (i:=1) rfl;have q2:=q.cell (i:=2) rfl;have q3:=q.cell (i:=3) rfl;go_simp);refine Zo 5 fun K hK=>?_;go_simp;refine (HPL.out _ HAd.out).mono ?_;rintro e w9 ⟨pv,rfl,hp,hb⟩;have HS9:Hid (Only (fun j=>j=rB∨j=tB∨w8.heap.size≤j) w8 w9):=Zh (HSd.trans ((Only.of_belowB hb).more fun j _ hj=>.inr (.inr (by have:=HSZ.out;omega))));have HM9:=Zh (HMd.below hb);have HI9:=Zh (HId.below hb);have HP9:=Zh hp.ints;have HPB:Hid (∀j,pv.ownBlock=some j→tB<j):=Zh fun j hj=>by have h1:=(hp.lt j hj).1;have h2:=HMd.lt;omega
   obtain⟨pa,pc,hpv⟩:=hp.ints.form;obtain⟨n3,hn3⟩:∃n,((Jf a.seq (pl.map (·.1))).2.map (XF (f:Int))).length=n:=⟨_,rfl⟩
   rw [hn3] at hpv;subst hpv;refine hK _ _ HS9.out ?_;clear hK K hp hb hn3 HMd HId HAd HPL HSd;refine nm ?_;refine th 6 57 (.agg #[.slice ia n1 c1,.slice pa n3 pc]) HS9.out ?_ (hy:=fun wq hS=>by exact Jc _ _ _ _ 214 _ rfl #[(0,.slice ia n1 c1),(1,.slice pa n3 pc)] (by simp only [List.map_toArray,List.map_cons,List.map_nil];rfl) _ (run_build wq 214 _ _ (J9m _ _ _ _ _ _)));refine Zo 8 fun K hK=>?_;refine JA 214 _ _ rfl rB #[.slice ia n1 c1,.slice pa n3 pc] rfl rfl _ HM9.rb rfl KE (XG _ _ _ _ _ _) ?_;intro w10 hD hO;have HS10:Hid (Only (fun j=>j=rB∨j=tB∨w8.heap.size≤j) w8 w10):=Zh (HS9.trans (hO.more fun j _ hj=>.inl hj));have HM10:=Zh (HM9.setR hO hD);have HI10:=Zh (HI9.only HM9.rb (J3m _ _ _ _ _ _) hO);have HP10:=Zh (HP9.only hO fun b o n c e=>by have h1:=HPB.out b (by rw [e];rfl);have h2:=HLT.out;omega);refine hK _ _ HS10.out ?_;clear hK K hD hO HM9 HI9 HP9 HS9;refine nm ?_;refine Zo 9 fun K hK=>?_;refine JA 58 _ _ rfl tB #[.int .i64 a.seg,.int .i64 (a.off+(k:Int)),.int .u32 ((a.seq+(q:Int))%M32),.slice fa m fc] rfl rfl _ HM10.tb rfl JG (Kj _ _ _ _ _ _) ?_;intro w11 hD hO;have HS11:Hid (Only (fun j=>j=rB∨j=tB∨w8.heap.size≤j) w8 w11):=Zh (HS10.trans (hO.more fun j _ hj=>.inr (.inl hj)));have HM11:=Zh (HM10.setT hO hD);have HI11:=Zh (HI10.only HM10.tb (qY _ _ _ _ _ _) hO);have HP11:=Zh (HP10.only hO fun b o n c e=>by have h1:=HPB.out b (by rw [e];rfl);omega);refine hK _ _ HS11.out ?_;clear hK K hD hO HM10 HI10 HP10 HS10;refine nm ?_;refine th 10 8 (.nilIface) HS11.out ?_;refine Zd ?_
   go_wp2_with fail
   refine bodyPost_ret (v:=.tuple #[.agg #[.slice ia n1 c1,.slice pa n3 pc],.agg #[.int .i64 a.seg,.int .i64 (a.off+(k:Int)),.int .u32 ((a.seq+(q:Int))%M32),.slice fa m fc],.nilIface]) (Qm rfl _ _ rB tB #[.slice ia n1 c1,.slice pa n3 pc] #[.int .i64 a.seg,.int .i64 (a.off+(k:Int)),.int .u32 ((a.seq+(q:Int))%M32),.slice fa m fc] _ _ .nilIface rfl rfl rfl Tryz.underlying214 Tryz.underlying58 rfl rfl KE JG (HM11.rb.all rfl) (HM11.tb.all rfl)) rfl ⟨.inr ⟨pl.map (·.1),ia,n1,c1,pa,n3,pc,pl,HRN.out,by rw [HK.out,HQ.out.1],rfl,HI11.out,?_,fun j hj=>by have h1:=HPB.out j hj;have h2:=HM11.lt;have h3:=HGB.out;omega,by rw [HGB.out];exact HFF.out.1,by rw [HGB.out];exact HFF.out.2⟩,HGB.out ▸ HM11.bel⟩;unfold pOf;rw [HFO.out];exact HP11.out
end
open Go.RowKit Go.Extern.Stop Go.Stop Go.Extern
theorem jk(h:Value)(w:World):(Go.method 461 282 (.agg #[h]) "Comparable").run Tryz.prog w=.ok (220,.agg #[h]) w:=by kernel_rfl
theorem Jdd(v:Value)(xT:TypeId)(w:World):(Instr.typeAssert (.iface 190 v) xT 301 true).run Tryz.prog w=.ok (.tuple #[.nilIface,.bool false]) w:=run_typeAssert_lacksB Tryz.underlying301 (by kernel_rfl) (by kernel_rfl) v xT w
theorem zr(v:Value)(xT:TypeId)(w:World):(Instr.typeAssert (.iface 190 v) xT 289 true).run Tryz.prog w=.ok (.tuple #[.iface 190 v,.bool true]) w:=run_typeAssert_hasB Tryz.underlying289 (by kernel_rfl) v xT w
theorem J1k(v:Value)(xT:TypeId)(w:World):(Instr.typeAssert (.iface 28 v) xT 301 true).run Tryz.prog w=.ok (.tuple #[.nilIface,.bool false]) w:=run_typeAssert_lacksB Tryz.underlying301 (by kernel_rfl) (by kernel_rfl) v xT w
theorem J1l(v:Value)(xT:TypeId)(w:World):(Instr.typeAssert (.iface 28 v) xT 289 true).run Tryz.prog w=.ok (.tuple #[.nilIface,.bool false]) w:=run_typeAssert_lacksB Tryz.underlying289 (by kernel_rfl) (by kernel_rfl) v xT w
theorem J1m(v:Value)(xT:TypeId)(w:World):(Instr.typeAssert (.iface 28 v) xT 290 true).run Tryz.prog w=.ok (.tuple #[.nilIface,.bool false]) w:=run_typeAssert_lacksB Tryz.underlying290 (by kernel_rfl) (by kernel_rfl) v xT w
theorem jU(a:Addr)(w:World):(Go.method 461 190 (.pointer (some a)) "Unwrap").run Tryz.prog w=.ok (214,.pointer (some a)) w:=by kernel_rfl
theorem Jgc:(Tryz.prog.info? 28).map (·.comparable)=some true:=by kernel_rfl
theorem Jde(a b:Int)(w:World):(binOp .eql 121 (.iface 28 (.int .i64 a)) (.iface 28 (.int .i64 b))).run Tryz.prog w=.ok (.bool (a == b)) w:=by
 obtain⟨i,hi,hc⟩:=Option.map_eq_some_iff.1 Jgc;exact ZJ w a b Tryz.underlying121 Tryz.underlying28 hi hc
theorem Jdf(a b:Value)(w:World):(binOp .eql 121 (.iface 190 a) (.iface 28 b)).run Tryz.prog w=.ok (.bool false) w :=
 run_eql_iface_types 190 28 a b Tryz.underlying121 (by decide) w
theorem Ji2(args:Array Value)(w:World):(callFunc 220 args).run Tryz.prog w=(((ReflectliteType.method fun t=>do Go.Extern.Rtype.noPackHeld "Comparable" t;pure (.bool (←typeInfo t).comparable):Array Value→Sem Value) args).run Tryz.prog w).andThen fun v w'=>.ok (.value v) w':=@run_callFunc_extern Tryz.prog 220 _ (ReflectliteType.method fun t=>do Go.Extern.Rtype.noPackHeld "Comparable" t;pure (.bool (←typeInfo t).comparable)) Tryz.func220 (by kernel_rfl) (by kernel_rfl) (by kernel_rfl) (by kernel_rfl) args w
theorem xS(w:World):((ReflectliteType.method fun t=>do Go.Extern.Rtype.noPackHeld "Comparable" t;(fun a=>Value.bool a.comparable) <$> typeInfo t) #[.agg #[.pointer (some ⟨4,28,none⟩)]]).run Tryz.prog w=.ok (.bool true) w:=by kernel_rfl
theorem J9o{w:World}{n:Int}:∀{ts:List ByteArray} {v:Value},Chain w n ts v→∃T d,v=.iface T d
 | [],_,h=>⟨_,_,h⟩
 | _::_,_,⟨_,_,h,_⟩=>⟨_,_,h⟩
theorem Jgd(n m:Int)(r:Bool)(hr:(n == m)=r)(ts:List ByteArray)(v:Value)(w:World)(hc:Chain w n ts v) :
 Calls Tryz.prog 143 #[v,.iface 28 (.int .i64 m),.bool true] w fun e w'=>e=.returned (.bool r)∧w=w':=by
 have e1:=Jde n m;have e2:=fun a=>Jdf a (.int .i64 m);rw [hr] at e1;have mU:=jU;have nA:=Jdd;have nU:=zr;have n1:=J1k;have n2:=J1l;have n3:=J1m;have HC:=Zh hc;clear hc hr;go_enter Tryz.func143,Tryz.ntmps143
 go_wp2_with fail
 go_loopg [0] ts.length (fun k x wr=>∃us:List ByteArray,us.length≤k∧Chain wr n us x∧w=wr)
 case atStart=>exact⟨ts,Nat.le_refl _,HC.out,rfl⟩
 case round =>
  obtain⟨us,hl,hcr,rfl⟩:=hrel;cases us with
  | nil =>
   simp only [Chain] at hcr;subst hcr;cases r
   · go_wp2
     go_ret;exact⟨rfl,rfl⟩
   · go_wp2
     go_ret;exact⟨rfl,rfl⟩
  | cons s us =>
   obtain⟨a,u,rfl,k0,k1,k2,hcu⟩:=hcr;obtain⟨T,d,rfl⟩:=J9o hcu;have HU:=Zh hcu;have HL:=Zh hl;clear hcu hl
   go_wp2_with (go_at_call 214;go_must (refine (kH a (.iface T d) _ k1).mono ?_);rintro e w' ⟨rfl,rfl⟩)
   go_roundg us.length
   case measure=>have:=HL.out;simp at this;omega
   case rel=>exact⟨us,Nat.le_refl _,HU.out,rfl⟩
theorem J9p(n m:Int)(r:Bool)(hr:(n == m)=r)(ts:List ByteArray)(T:TypeId)(d:Value)(w:World)(hc:Chain w n ts (.iface T d)) :
 Calls Tryz.prog 114 #[.iface T d,.iface 28 (.int .i64 m)] w fun e w'=>e=.returned (.bool r)∧w=w':=by
 have h31:=Jf8;have h79:=Ji2;have tO:=yS;have mC:=jk;have cO:=xS;have HI:=Zh (Jgd n m r hr ts (.iface T d) w hc);clear hc hr;go_enter Tryz.func114,Tryz.ntmps114
 go_wp2_with (go_at_call 143;go_must (refine HI.mono ?_);rintro e w' ⟨rfl,rfl⟩)
 go_ret;exact⟨rfl,rfl⟩
theorem Jge(a:Value)(w:World) :
 CallsD Tryz.prog 113 #[a] .returning w fun e u' w'=>e=.returned (.tuple #[])∧u'=.returning∧w'=w:=by
 refine callsD_of_wpS Tryz.func113 rfl fun c₀ cs hu=>?_;apply wpS_seq;apply wpS_region;simp [wpOpsS,go_sem,recoverD,hu,Tryz.ntmps113,Exit.thenS];refine wpS_cond (t:=false) (by simp [Act.eval,Array.replicate]) ?_;simp only [Bool.false_eq_true,if_false];refine wpS_of_wp (wp_skip ?_);cases c₀
 simp_all [bodyPostS,results,Tryz.results113]
theorem Yu(m:Int)(r:Bool)(hr:(m == 0)=r)(w:World):Calls Tryz.prog 84 #[.nilIface,.int .i64 m] w fun e w'=>e=.returned (.bool r)∧Below w.heap.size w w':=by
 go_enter_defers Tryz.func84,Tryz.ntmps84
 go_wp2
 simp [bodyPostD,Leaves,settle,results,Tryz.results84,go_sem];exact (Below.refl _ _).alloc (Nat.le_refl _) _
theorem Yv(n m:Int)(r:Bool)(hr:(n == m)=r)(ts:List ByteArray)(T:TypeId)(d:Value)(w:World)(hc:Chain w n ts (.iface T d)) :
 Calls Tryz.prog 84 #[.iface T d,.int .i64 m] w fun e w'=>e=.returned (.bool r)∧Below w.heap.size w w':=by
 have hmf:∀(fn:Fn) (first cap:Array Value) (w:World),(Instr.makeFunc fn first cap).run Tryz.prog w=.ok (.func fn first cap) w:=fun _ _ _ _=>rfl;have b1:Below w.heap.size w (w.alloc (.cells #[.bool false] 4)):=(Below.refl w.heap.size w).alloc (Nat.le_refl _) _;have HA:=Zh (J9p n m r hr ts T d (w.alloc (.cells #[.bool false] 4)) (hc.below (Nat.le_refl _) b1));have HB:=Zh b1;clear hr hc b1
 go_enter_defers Tryz.func84,Tryz.ntmps84
 go_wp2_with (go_at_call 114;go_must (refine HA.mono ?_);rintro e w1 ⟨rfl,rfl⟩)
 refine leaves_cons (f:=113) (args:=#[.pointer (some ⟨w.heap.size,0,none⟩)]) (by simp) (by simp [go_sem]) ?_;refine (Jge _ _).mono ?_;rintro e u' w'' ⟨rfl,rfl,rfl⟩;simp [Leaves,settle,results,Tryz.results84,go_sem];exact (Below.refl _ _).alloc (Nat.le_refl _) _
open Go.RowKit
def Jf9(B:Nat)(g:Pl.Gm)(a:Ja)(fv:Value)(r:Option (List It×Ja))(e:Ending)(w':World):Prop :=
 (r=none∧∃v,e=.returned (.tuple #[.agg #[.slice none 0 0,.slice none 0 0],.agg #[.int .i64 0,.int .i64 0,.int .u32 0,.slice none 0 0],v])∧Fault w' 17 v) ∨
 ∃l b1 ia n1 c1 aa n2 c2 pl fq fn fc,r=some (l,b1)∧e=.returned (.tuple #[.agg #[.slice ia n1 c1,.slice aa n2 c2],.agg #[.int .i64 b1.seg,.int .i64 (b1.off+(Jf a.seq l).1.length),.int .u32 ((a.seq+Kh l)%M32),.slice fq fn fc],.nilIface])∧pl.map (·.1)=l∧ItemsAt w' (.slice ia n1 c1) pl∧IntsAt w' (.slice aa n2 c2) (pOf g a b1 l)∧IntsAt w' (.slice fq fn fc) b1.free∧fn≤fc ∧
  (∀b' o,fq=some ⟨b',o,none⟩→∃o2 n c,fv=.slice (some ⟨b',o2,none⟩) n c)∧(∀j,Value.ownBlock (.slice aa n2 c2)=some j→B≤j)∧Fresh B (.slice ia n1 c1)∧∀x∈pl,Fresh B x.2
theorem Fm.other{w wx wy:World}{gB aB rB tB x:Nat}{g:Pl.Gm}{A R T:List Value}(h:Fm w wx gB aB rB tB g A R T)(ho:Only (fun k=>k=x) wx wy)(hx:tB<x):Fm w wy gB aB rB tB g A R T:=by
 obtain⟨l1,l2,l3,l4,l5⟩:=h.lt;exact⟨h.gb.only ho (by omega),h.ab.only ho (by omega),h.rb.only ho (by omega),h.tb.only ho (by omega),h.bel.trans (ho.below h.bel.size fun k hk=>by omega),l1,l2,l3,l4,Nat.lt_of_lt_of_le l5 ho.size⟩
section
variable {W w:World} {b:Nat} {F:Nat→Prop} {d:De.D} {g:Pl.Gm} {a:Ja} {fv:Value}
theorem J9q{X:List (List Int)}(h:De.Dv W w b F d)(hX:Img d X)(hLn:d.L.length≤1000000)(hbig:X.length≤1024)(hg:a.good g=true)(hq:Km a.seq)(ht:4+g.s*g.l≤(X.length:Int))(hf:IntsAt w fv a.free)(hcap:∀q n c,fv=.slice q n c→n≤c)(hfo:∀b' o n c,fv=.slice (some ⟨b',o,none⟩) n c→b'<w.heap.size) :
 Calls Tryz.prog 128 #[.pointer (some ⟨b,0,none⟩),g.v,.agg #[.int .i64 a.seg,.int .i64 a.off,.int .u32 a.seq,fv]] w fun e w'=>Jf9 w.heap.size g a fv (nxt X g a) e w'∧Below w.heap.size w w':=by
 have HGA:Hid (∀w',Below w.heap.size w w'→Calls Tryz.prog 159 #[.pointer (some ⟨b,0,none⟩),g.v,.agg #[.int .i64 a.seg,.int .i64 a.off,.int .u32 a.seq,fv]] w' fun e w''=>J9n w'.heap.size g a fv (gAt X g a) e w''∧Below w'.heap.size w' w''):=Zh fun w' hb=>jE (h.below hb) hX hLn hbig hg hq ht (hf.below hb);have HGF:Hid (∀f r,a.free=f::r→∀w' fw,Below w.heap.size w w'→IntsAt w' fw r→Calls Tryz.prog 159 #[.pointer (some ⟨b,0,none⟩),g.v,.agg #[.int .i64 f,.int .i64 0,.int .u32 a.seq,fw]] w' fun e w''=>J9n w'.heap.size g ⟨f,0,a.seq,r⟩ fw (gAt X g ⟨f,0,a.seq,r⟩) e w''∧Below w'.heap.size w' w''):=Zh fun f r e w' fw hb hi=>jE (a:=⟨f,0,a.seq,r⟩) (h.below hb) hX hLn hbig (YP hg e) hq ht hi;have HF0:=Zh hf;have hfew:=Ja.few hg;obtain⟨fa,fc,hfv⟩:=hf.form;obtain⟨m,hm⟩:∃m,a.free.length=m:=⟨_,rfl⟩
 rw [hm] at hfv hfew;subst hfv;have HMN:=Zh hm;have HCP:=Zh (hcap _ _ _ rfl);have HFB:Hid (∀b' o n c,Value.slice fa m fc=.slice (some ⟨b',o,none⟩) n c→b'<w.heap.size):=Zh hfo;clear h hX hLn hbig hq ht hf hcap hfo hm;go_enter Tryz.func128,Tryz.ntmps128;go_upto_region 0 with fail;refine Zl ?_;refine JR (cs:=#[.int .i64 g.p,.int .i64 g.s,.int .i64 g.l,.int .i64 g.f]) rfl rfl ?_;intro w1 hG hb1 hl1;refine nm ?_;refine JR (cs:=#[.int .i64 a.seg,.int .i64 a.off,.int .u32 a.seq,.slice fa m fc]) rfl rfl ?_;intro w2 hA hb2 hl2;refine nm ?_;refine J4 Xz rfl ?_;intro w3 hR hb3 hl3;refine nm ?_;refine J4 Q2 rfl ?_;intro w4 hT hb4 hl4;refine nm ?_;obtain⟨gB,hgB⟩:∃k,w.heap.size=k:=⟨_,rfl⟩
 have HM:Hid (Fm w w4 gB w1.heap.size w2.heap.size w3.heap.size g [.int .i64 a.seg,.int .i64 a.off,.int .u32 a.seq,.slice fa m fc] [.slice none 0 0,.slice none 0 0] [.int .i64 0,.int .i64 0,.int .u32 0,.slice none 0 0]):=Zh (by
  rw [←hgB]
  have b3:=hb3.trans (hb4.mono hb3.size)
  have b2:=hb2.trans (b3.mono hb2.size)
  exact⟨hG.below b2 hG.lt,hA.below b3 hA.lt,hR.below hb4 hR.lt,hT,hb1.trans (b2.mono hb1.size),Nat.le_refl _,hl1,hl2,hl3,hl4⟩)
 clear hG hb1 hl1 hA hb2 hl2 hR hb3 hl3 hT hb4 hl4;rw [hgB];have HGB:=Zh hgB;clear hgB;generalize w1.heap.size=aB at *;generalize w2.heap.size=rB at *;generalize w3.heap.size=tB at *;refine tk (.nilIface) ?_;go_upto_region 1 with fail;refine Zl ?_;refine tk (.pointer (some ⟨b,0,none⟩)) ?_;refine tk (.agg #[.int .i64 g.p,.int .i64 g.s,.int .i64 g.l,.int .i64 g.f]) ?_ (hr:=by have q:=HM.gb;have q0:=q.cell (i:=0) rfl;have q1:=q.cell (i:=1) rfl;have q2:=q.cell (i:=2) rfl;have q3:=q.cell (i:=3) rfl;go_simp);refine tk (.agg #[.int .i64 a.seg,.int .i64 a.off,.int .u32 a.seq,.slice fa m fc]) ?_ (hr:=by have q:=HM.ab;have q0:=q.cell (i:=0) rfl;have q1:=q.cell (i:=1) rfl;have q2:=q.cell (i:=2) rfl;have q3:=q.cell (i:=3) rfl;go_simp);refine J0 rfl fun K hK=>?_;go_simp;refine (HGA.out w4 HM.bel).mono ?_;rintro e w5 ⟨ho,hb⟩;have HM5:=Zh (HM.below hb);have HT5:Hid (tB<w4.heap.size∧w4.heap.size≤w5.heap.size):=Zh ⟨HM.lt.2.2.2.2,hb.size⟩;clear hb HM HGA;rcases ho with ⟨hr,v,rfl,hf⟩|⟨l,ia,n1,c1,aa,n2,c2,pl,hr,rfl,hpl,hi,hp,hpb,hff⟩
 · have HR:=Zh hr;obtain⟨T,dd,hv⟩:=hf.shape;subst hv;have HF5:=Zh hf;clear hf hr;refine hK _ _ (nm ?_);clear hK K;refine tk (.tuple #[.agg #[.slice none 0 0,.slice none 0 0],.agg #[.int .i64 0,.int .i64 0,.int .u32 0,.slice none 0 0],.iface T dd]) ?_;refine tk (.agg #[.slice none 0 0,.slice none 0 0]) ?_;refine tk (.agg #[.int .i64 0,.int .i64 0,.int .u32 0,.slice none 0 0]) ?_;refine tk (.iface T dd) ?_;refine J4 Xz rfl ?_;intro w6 hx hb6 hl6;refine nm ?_;refine J4 Q2 rfl ?_;intro w7 he hb7 hl7;refine nm ?_;have HM7:=Zh ((HM5.below hb6).below hb7);have HF7:=Zh ((HF5.below hb6).below hb7);have HX7:=Zh (hx.below hb7 hx.lt);have HE7:=Zh he;have HL7:Hid (w5.heap.size<w6.heap.size∧w6.heap.size<w7.heap.size):=Zh ⟨hl6,hl7⟩;clear hx hb6 hl6 he hb7 hl7 HM5 HF5;refine J3 (cs:=#[.slice none 0 0,.slice none 0 0]) HX7.out rfl KE (XG none none 0 0 0 0) rfl rfl rfl ?_;intro w8 hD hO hlD;have HM8:=Zh (HM7.other hO (by have h1:=HT5.out;omega));have HF8:=Zh (HF7.onlyB hO HX7.out (fun t=>by simp));have HX8:=Zh hD;have HE8:=Zh (HE7.only hO (by have h1:=HL7.out;omega));clear hD hO hlD HM7 HF7 HX7 HE7;refine nm ?_;refine J3 (cs:=#[.int .i64 0,.int .i64 0,.int .u32 0,.slice none 0 0]) HE8.out rfl JG (Kj _ _ _ _ _ _) rfl rfl rfl ?_;intro w9 hD hO hlD;have HM:=Zh (HM8.other hO (by have h1:=HT5.out;have h2:=HL7.out;omega));have HF:=Zh (HF8.onlyB hO HE8.out (fun t=>by simp));have HXB:=Zh (HX8.only hO (by have h1:=HL7.out;omega));have HEB:=Zh hD;have HLX:Hid (rB<tB∧tB<w5.heap.size∧w5.heap.size<w6.heap.size):=Zh ⟨HM8.lt.2.2.2.1,by have h1:=HT5.out;omega,HL7.out.1⟩;clear hD hO hlD HM8 HF8 HX8 HE8 HT5 HL7;generalize w5.heap.size=xB at *;generalize w6.heap.size=eB at *;refine nm ?_;refine tk (.iface T dd) ?_;refine Zn ?_;obtain⟨T',d',t',ts,hv,hc⟩:=id HF.out;cases hv;have HC:=Zh hc;clear hc;cases hfr:a.free with
   | nil =>
    have hm0:m=0:=by rw [←HMN.out,hfr];rfl
    subst hm0;have HNX:Hid (nxt X g a=none):=Zh (by unfold nxt;rw [HR.out];simp only [hfr]);have q3:=HM.ab.cell (i:=3) rfl;clear hfr
    go_wp2_with fail
    refine (Yv 17 17 true rfl _ T dd _ HC.out).mono ?_;rintro e w10 ⟨rfl,hb⟩;have HM2:=Zh (HM.below hb);have HF2:=Zh (HF.below hb);have HXB2:=Zh (HXB.below hb HXB.lt);have HEB2:=Zh (HEB.below hb HEB.lt);clear hb HM HF HXB HEB HC q3;have HM:=HM2;have HF:=HF2;have HXB:=HXB2;have HEB:=HEB2;clear HM2 HF2 HXB2 HEB2;have q3:=HM.ab.cell (i:=3) rfl;go_upto_region 3 with fail;refine J9 (fun wq=>Only (fun j=>j=rB∨j=tB) w10 wq) (by kernel_rfl) ?_;have HSd:Hid (Only (fun j=>j=rB∨j=tB) w10 w10.drew):=Zh (Only.refl _ _).drew;have HXW:Hid (∀wq,Only (fun j=>j=rB∨j=tB) w10 wq→Blk wq xB [.slice none 0 0,.slice none 0 0]):=Zh fun wq hS=>HXB.only hS (by have h1:=HLX.out;omega);have HEW:Hid (∀wq,Only (fun j=>j=rB∨j=tB) w10 wq→Blk wq eB [.int .i64 0,.int .i64 0,.int .u32 0,.slice none 0 0]):=Zh fun wq hS=>HEB.only hS (by have h1:=HLX.out;omega);have HMd:=Zh (HM.below (Below.refl _ _).drew);have HFd:=Zh (HF.below (Below.refl _ _).drew);generalize w10.drew=wS at *;refine th 0 29 (.agg #[.slice none 0 0,.slice none 0 0]) HSd.out ?_ (hy:=fun wq hS=>by have q:=HXW.out wq hS;have q0:=q.cell (i:=0) rfl;have q1:=q.cell (i:=1) rfl;go_simp);refine th 1 30 (.agg #[.int .i64 0,.int .i64 0,.int .u32 0,.slice none 0 0]) HSd.out ?_ (hy:=fun wq hS=>by have q:=HEW.out wq hS;have q0:=q.cell (i:=0) rfl;have q1:=q.cell (i:=1) rfl;have q2:=q.cell (i:=2) rfl;have q3:=q.cell (i:=3) rfl;go_simp);refine th 2 31 (.iface T dd) HSd.out ?_;refine Zo 3 fun K hK=>?_;refine JA 214 _ _ rfl rB #[.slice none 0 0,.slice none 0 0] rfl rfl _ HMd.rb rfl KE (XG _ _ _ _ _ _) ?_;intro u10 hD hO;have HS10:Hid (Only (fun j=>j=rB∨j=tB) w10 u10):=Zh (HSd.trans (hO.more fun j _ hj=>.inl hj));have HM10:=Zh (HMd.setR hO hD);have HF10:=Zh (HFd.onlyB hO HMd.rb (fun t=>by simp));refine hK _ _ HS10.out ?_;clear hK K hD hO;refine nm ?_;refine Zo 4 fun K hK=>?_;refine JA 58 _ _ rfl tB #[.int .i64 0,.int .i64 0,.int .u32 0,.slice none 0 0] rfl rfl _ HM10.tb rfl JG (Kj _ _ _ _ _ _) ?_;intro u11 hD hO;have HS11:Hid (Only (fun j=>j=rB∨j=tB) w10 u11):=Zh (HS10.trans (hO.more fun j _ hj=>.inr hj));have HM11:=Zh (HM10.setT hO hD);have HF11:=Zh (HF10.onlyB hO HM10.tb (fun t=>by simp));refine hK _ _ HS11.out ?_;clear hK K hD hO;refine nm ?_;refine th 5 8 (.iface T dd) HS11.out ?_;refine Zd ?_
    go_wp2_with fail
    refine bodyPost_ret (v:=.tuple #[.agg #[.slice none 0 0,.slice none 0 0],.agg #[.int .i64 0,.int .i64 0,.int .u32 0,.slice none 0 0],.iface T dd]) (Qm rfl _ _ rB tB #[.slice none 0 0,.slice none 0 0] #[.int .i64 0,.int .i64 0,.int .u32 0,.slice none 0 0] _ _ (.iface T dd) rfl rfl rfl Tryz.underlying214 Tryz.underlying58 rfl rfl KE JG (HM11.rb.all rfl) (HM11.tb.all rfl)) rfl ⟨.inl ⟨HNX.out,_,rfl,HF11.out⟩,HGB.out ▸ HM11.bel⟩
   | cons f r =>
    have hm1:m=r.length+1:=by rw [←HMN.out,hfr];rfl
    have HGN:=Zh (HGF.out f r hfr);obtain⟨qb,qo,hfa,hq0⟩:∃b o,fa=some ⟨b,o,none⟩∧w.cell? ⟨b,o,none⟩=some (.int .i64 f):=by
     obtain⟨q',c',e,hc⟩:=HF0.out;obtain⟨b2,o2,h1,h2⟩:=hc 0 f (by rw [hfr];rfl);cases e;exact⟨b2,o2,h1,h2⟩
    subst hfa;have HQ:=Zh hq0;have HQL:=Zh (block_lt_of_cell hq0);have HT:Hid (∀w',Below w.heap.size w w'→IntsAt w' (.slice (K6 (some ⟨qb,qo,none⟩) 1 fc 1) (m-1) (fc-1)) r∧∀b o m' c,Value.slice (K6 (some ⟨qb,qo,none⟩) 1 fc 1) (m-1) (fc-1)=.slice (some ⟨b,o,none⟩) m' c→∃o2,(some ⟨qb,qo,none⟩:Option Addr)=some ⟨b,o2,none⟩):=Zh fun w' hb=>IntsAt.tail (x:=f) (r:=r) (by have:=HF0.below hb;rw [hfr] at this;exact this) HCP.out;have HNX:Hid (nxt X g a=(gAt X g ⟨f,0,a.seq,r⟩).map fun l=>(l,⟨f,0,a.seq,r⟩)):=Zh (by unfold nxt;rw [HR.out];simp only [hfr]);have hmz:((m:Int) == 0)=false:=by rw [beq_eq_false_iff_ne];omega
    have hmp:(0:Int)<(m:Int):=by omega
    have hmn:1≤m:=by omega
    have q3:=HM.ab.cell (i:=3) rfl;clear hfr hm1 hq0
    go_wp2_with fail
    refine (Yv 17 17 true rfl _ T dd _ HC.out).mono ?_;rintro e w10 ⟨rfl,hb⟩;have HM2:=Zh (HM.below hb);clear hb HM HF HXB HEB HC q3 HGF;have HM:=HM2;clear HM2;have q3:=HM.ab.cell (i:=3) rfl;go_upto_region 4 with fail;clear q3
    go_cut [32] from 32 to 41 (fun s wx=>Blk wx aB [.int .i64 f,.int .i64 0,.int .u32 a.seq,.slice (K6 (some ⟨qb,qo,none⟩) 1 fc 1) (m-1) (fc-1)]∧Only (fun k=>k=aB) w10 wx)
    case first =>
     refine J9 (fun wq=>Only (fun k=>k=aB) w10 wq) (by kernel_rfl) ?_;have HSd:Hid (Only (fun k=>k=aB) w10 w10.drew):=Zh (Only.refl _ _).drew;have HVd:=Zh HM.ab.drew;have HQ3:Hid (∀wq,Only (fun k=>k=aB) w10 wq→wq.cell? ⟨qb,qo,none⟩=some (.int .i64 f)):=Zh fun wq hS=>hS.cellZ (a:=⟨qb,qo,none⟩) (by have h1:qb<w.heap.size:=HQL.out;have h2:=HM.lt;show ¬qb=aB;omega) ((HM.bel.cell (p:=⟨qb,qo,none⟩) HQL.out).trans HQ.out);have HVL:Hid (Only (fun k=>k=aB) w10 w10.drew):=HSd;generalize w10.drew=wS at *;refine th 0 32 (.pointer (some ⟨aB,3,none⟩)) HSd.out ?_;refine th 4 36 (.pointer (some ⟨aB,3,none⟩)) HSd.out ?_;refine Zu 1 5 (by kernel_rfl) rfl rfl rfl rfl (fun K hK=>?_) (fun K hK=>?_)
     · refine Jb (some 33) rfl (.slice (some ⟨qb,qo,none⟩) m fc) wS (by have hq:=HVd.cell (i:=3) rfl;go_simp) ?_;refine hK _ _ HSd.out (nm ?_);clear hK K;refine th 2 34 (.pointer (some ⟨qb,qo,none⟩)) HSd.out ?_ (hy:=fun wq hS=>by have hm0:¬m=0:=(by omega);have hm1:(0:Int)<(m:Int):=hmp;go_simp);refine th 3 35 (.int .i64 f) HSd.out ?_ (hy:=fun wq hS=>by have q:=HQ3.out wq hS;go_simp);refine Zo 5 fun K hK=>?_;refine Jb (some 37) rfl (.slice (some ⟨qb,qo,none⟩) m fc) wS (by have hq:=HVd.cell (i:=3) rfl;go_simp) ?_;refine hK _ _ HSd.out (nm ?_);clear hK K;refine Jl 6 (some 38) (.slice (K6 (some ⟨qb,qo,none⟩) 1 fc 1) (m-1) (fc-1)) rfl rfl (by kernel_rfl) (by kernel_rfl) (by kernel_rfl) (fun _ _ _ h=>h) rfl (fun wq hS=>Xy wq _ _ _ _ rfl (some ⟨qb,qo,none⟩) m fc 1 rfl rfl hmn) HSd.out ?_;refine nm ?_;refine th 7 39 (.pointer (some ⟨aB,0,none⟩)) HSd.out ?_;refine Zo 8 fun K hK=>?_;refine JX none rfl (wS.setCell ⟨aB,0,none⟩ (.int .i64 f)) (by have hq:=HVd.cell (i:=0) rfl;have hf:=HVd.frozen 0;go_simp) ?_;have HSe:Hid (Only (fun k=>k=aB) w10 (wS.setCell ⟨aB,0,none⟩ (.int .i64 f))):=Zh (HSd.setCell (p:=⟨aB,0,none⟩) (.inl rfl) _);have HVe:=Zh (HVd.set 0 (.int .i64 f));refine hK _ _ HSe.out ?_;clear hK K;generalize wS.setCell ⟨aB,0,none⟩ (.int .i64 f)=wT at *;refine nm ?_;refine th 9 40 (.pointer (some ⟨aB,1,none⟩)) HSe.out ?_;refine Zo 10 fun K hK=>?_;refine JX none rfl (wT.setCell ⟨aB,1,none⟩ (.int .i64 0)) (by have hq:=HVe.cell (i:=1) rfl;have hf:=HVe.frozen 1;go_simp) ?_;have HSf:Hid (Only (fun k=>k=aB) w10 (wT.setCell ⟨aB,1,none⟩ (.int .i64 0))):=Zh (HSe.setCell (p:=⟨aB,1,none⟩) (.inl rfl) _);have HVf:=Zh (HVe.set 1 (.int .i64 0));refine hK _ _ HSf.out ?_;clear hK K;generalize wT.setCell ⟨aB,1,none⟩ (.int .i64 0)=wU at *;refine nm ?_;refine th 11 41 (.pointer (some ⟨aB,3,none⟩)) HSf.out ?_;refine Zo 12 fun K hK=>?_;refine JX none rfl (wU.setCell ⟨aB,3,none⟩ (.slice (K6 (some ⟨qb,qo,none⟩) 1 fc 1) (m-1) (fc-1))) (by have hq:=HVf.cell (i:=3) rfl;have hf:=HVf.frozen 3;go_simp) ?_;have HSg:Hid (Only (fun k=>k=aB) w10 (wU.setCell ⟨aB,3,none⟩ (.slice (K6 (some ⟨qb,qo,none⟩) 1 fc 1) (m-1) (fc-1)))):=Zh (HSf.setCell (p:=⟨aB,3,none⟩) (.inl rfl) _);have HVg:=Zh (HVf.set 3 (.slice (K6 (some ⟨qb,qo,none⟩) 1 fc 1) (m-1) (fc-1)));refine hK _ _ HSg.out ?_;clear hK K;generalize wU.setCell ⟨aB,3,none⟩ (.slice (K6 (some ⟨qb,qo,none⟩) 1 fc 1) (m-1) (fc-1))=wV at *;refine nm ?_;refine Zd ?_
       go_wp2_with fail
       go_meet
       exact⟨HVg.out,HSg.out⟩
     · refine Jb (some 37) rfl (.slice (some ⟨qb,qo,none⟩) m fc) wS (by have hq:=HVd.cell (i:=3) rfl;go_simp) ?_;refine hK _ _ HSd.out (nm ?_);clear hK K;refine Jl 6 (some 38) (.slice (K6 (some ⟨qb,qo,none⟩) 1 fc 1) (m-1) (fc-1)) rfl rfl (by kernel_rfl) (by kernel_rfl) (by kernel_rfl) (fun _ _ _ h=>h) rfl (fun wq hS=>Xy wq _ _ _ _ rfl (some ⟨qb,qo,none⟩) m fc 1 rfl rfl hmn) HSd.out ?_;refine nm ?_;refine Zo 1 fun K hK=>?_;refine Jb (some 33) rfl (.slice (some ⟨qb,qo,none⟩) m fc) wS (by have hq:=HVd.cell (i:=3) rfl;go_simp) ?_;refine hK _ _ HSd.out (nm ?_);clear hK K;refine th 2 34 (.pointer (some ⟨qb,qo,none⟩)) HSd.out ?_ (hy:=fun wq hS=>by have hm0:¬m=0:=(by omega);have hm1:(0:Int)<(m:Int):=hmp;go_simp);refine th 3 35 (.int .i64 f) HSd.out ?_ (hy:=fun wq hS=>by have q:=HQ3.out wq hS;go_simp);refine th 7 39 (.pointer (some ⟨aB,0,none⟩)) HSd.out ?_;refine Zo 8 fun K hK=>?_;refine JX none rfl (wS.setCell ⟨aB,0,none⟩ (.int .i64 f)) (by have hq:=HVd.cell (i:=0) rfl;have hf:=HVd.frozen 0;go_simp) ?_;have HSe:Hid (Only (fun k=>k=aB) w10 (wS.setCell ⟨aB,0,none⟩ (.int .i64 f))):=Zh (HSd.setCell (p:=⟨aB,0,none⟩) (.inl rfl) _);have HVe:=Zh (HVd.set 0 (.int .i64 f));refine hK _ _ HSe.out ?_;clear hK K;generalize wS.setCell ⟨aB,0,none⟩ (.int .i64 f)=wT at *;refine nm ?_;refine th 9 40 (.pointer (some ⟨aB,1,none⟩)) HSe.out ?_;refine Zo 10 fun K hK=>?_;refine JX none rfl (wT.setCell ⟨aB,1,none⟩ (.int .i64 0)) (by have hq:=HVe.cell (i:=1) rfl;have hf:=HVe.frozen 1;go_simp) ?_;have HSf:Hid (Only (fun k=>k=aB) w10 (wT.setCell ⟨aB,1,none⟩ (.int .i64 0))):=Zh (HSe.setCell (p:=⟨aB,1,none⟩) (.inl rfl) _);have HVf:=Zh (HVe.set 1 (.int .i64 0));refine hK _ _ HSf.out ?_;clear hK K;generalize wT.setCell ⟨aB,1,none⟩ (.int .i64 0)=wU at *;refine nm ?_;refine th 11 41 (.pointer (some ⟨aB,3,none⟩)) HSf.out ?_;refine Zo 12 fun K hK=>?_;refine JX none rfl (wU.setCell ⟨aB,3,none⟩ (.slice (K6 (some ⟨qb,qo,none⟩) 1 fc 1) (m-1) (fc-1))) (by have hq:=HVf.cell (i:=3) rfl;have hf:=HVf.frozen 3;go_simp) ?_;have HSg:Hid (Only (fun k=>k=aB) w10 (wU.setCell ⟨aB,3,none⟩ (.slice (K6 (some ⟨qb,qo,none⟩) 1 fc 1) (m-1) (fc-1)))):=Zh (HSf.setCell (p:=⟨aB,3,none⟩) (.inl rfl) _);have HVg:=Zh (HVf.set 3 (.slice (K6 (some ⟨qb,qo,none⟩) 1 fc 1) (m-1) (fc-1)));refine hK _ _ HSg.out ?_;clear hK K;generalize wU.setCell ⟨aB,3,none⟩ (.slice (K6 (some ⟨qb,qo,none⟩) 1 fc 1) (m-1) (fc-1))=wV at *;refine nm ?_;refine Zd ?_
       go_wp2_with fail
       go_meet
       exact⟨HVg.out,HSg.out⟩
    case rest =>
     obtain⟨hv,ho⟩:=hcut;have HM11:=Zh (HM.setA ho hv);have HT11:=Zh (HT.out _ HM11.bel);clear hv ho HM;obtain⟨ta,n9,tc,htv⟩:∃q n c,Value.slice (K6 (some ⟨qb,qo,none⟩) 1 fc 1) (m-1) (fc-1)=.slice q n c:=⟨_,_,_,rfl⟩
     have HTL:Hid (n9≤tc∧∀b' o,ta=some ⟨b',o,none⟩→b'=qb):=Zh (by
      have h2:=HT11.out.2
      have h3:=HCP.out
      rw [htv] at h2
      injection htv with e1 e2 e3
      exact⟨by omega,fun b' o e=>by
       obtain⟨o2,h4⟩:=h2 b' o n9 tc (by rw [e])
       injection h4 with h4
       exact (congrArg Addr.block h4).symm⟩)
     rw [htv] at HM11 HT11 HT;clear htv;have HTI:Hid (∀w',Below w.heap.size w w'→IntsAt w' (.slice ta n9 tc) r):=Zh fun w' hb=>(HT.out w' hb).1;have HGC:=Zh (HGN.out wc _ HM11.bel HT11.out.1);have HWS:Hid (w.heap.size≤wc.heap.size∧tB<wc.heap.size):=Zh ⟨HM11.bel.size,HM11.lt.2.2.2.2⟩;clear HGN HT HT11;go_upto_region 5 with fail;refine Zl ?_;refine tk (.pointer (some ⟨b,0,none⟩)) ?_;refine tk (.agg #[.int .i64 g.p,.int .i64 g.s,.int .i64 g.l,.int .i64 g.f]) ?_ (hr:=by have q:=HM11.gb;have q0:=q.cell (i:=0) rfl;have q1:=q.cell (i:=1) rfl;have q2:=q.cell (i:=2) rfl;have q3:=q.cell (i:=3) rfl;go_simp);refine tk (.agg #[.int .i64 f,.int .i64 0,.int .u32 a.seq,.slice ta n9 tc]) ?_ (hr:=by have q:=HM11.ab;have q0:=q.cell (i:=0) rfl;have q1:=q.cell (i:=1) rfl;have q2:=q.cell (i:=2) rfl;have q3:=q.cell (i:=3) rfl;go_simp);refine J0 rfl fun K hK=>?_;go_simp;refine (HGC.out).mono ?_;rintro e w12 ⟨ho,hb⟩;have HM12:=Zh (HM11.below hb);clear hb HM11 HGC;rcases ho with ⟨hr,v,rfl,hf⟩|⟨l,ia,n1,c1,aa,n2,c2,pl,hr,rfl,hpl,hi,hp,hpb,hff⟩
     · have HNX2:Hid (nxt X g a=none):=Zh (by rw [HNX.out,hr];rfl);have HFX:=Zh hf;obtain⟨T',d',hv⟩:=hf.shape;subst hv;clear hf hr;refine hK _ _ (nm ?_);clear hK K;refine tk (.agg #[.slice none 0 0,.slice none 0 0]) ?_;refine tk (.agg #[.int .i64 0,.int .i64 0,.int .u32 0,.slice none 0 0]) ?_;refine tk (.iface T' d') ?_;refine J3 (cs:=#[.slice none 0 0,.slice none 0 0]) HM12.rb rfl KE (XG none none 0 0 0 0) rfl rfl rfl ?_;intro w13 hD hO hlD;have HF13:=Zh (HFX.onlyB hO HM12.rb (fun t=>by simp));have HM13:=Zh (HM12.setR hO hD);clear hD hO hlD HFX HM12;refine nm ?_;refine J3 (cs:=#[.int .i64 0,.int .i64 0,.int .u32 0,.slice none 0 0]) HM13.tb rfl JG (Kj _ _ _ _ _ _) rfl rfl rfl ?_;intro w14 hD hO hlD;have HF14:=Zh (HF13.onlyB hO HM13.tb (fun t=>by simp));have HM14:=Zh (HM13.setT hO hD);clear hD hO hlD HF13 HM13;refine nm ?_;refine tk (.iface T' d') ?_;go_wp2_with fail
       refine bodyPost_ret (v:=.tuple #[.agg #[.slice none 0 0,.slice none 0 0],.agg #[.int .i64 0,.int .i64 0,.int .u32 0,.slice none 0 0],.iface T' d']) (Qm rfl _ _ rB tB #[.slice none 0 0,.slice none 0 0] #[.int .i64 0,.int .i64 0,.int .u32 0,.slice none 0 0] _ _ (.iface T' d') rfl rfl rfl Tryz.underlying214 Tryz.underlying58 rfl rfl KE JG (HM14.rb.all rfl) (HM14.tb.all rfl)) rfl ⟨.inl ⟨HNX2.out,_,rfl,HF14.out⟩,HGB.out ▸ HM14.bel⟩
     · have HNX2:Hid (nxt X g a=some (l,⟨f,0,a.seq,r⟩)):=Zh (by rw [HNX.out,hr];rfl);have HPL:=Zh hpl;have HI:=Zh hi;have HP:=Zh hp;have HPB:=Zh hpb;have HFF:Hid (Fresh w.heap.size (.slice ia n1 c1)∧∀x∈pl,Fresh w.heap.size x.2):=Zh ⟨fun b o n c e=>Nat.le_trans HWS.out.1 (hff.1 b o n c e),fun x hx b o n c e=>Nat.le_trans HWS.out.1 (hff.2 x hx b o n c e)⟩;clear hff;simp only;obtain⟨k,hk⟩:∃k,(Jf a.seq l).1.length=k:=⟨_,rfl⟩
       rw [hk];have HKK:=Zh hk;obtain⟨q,hq⟩:∃q,Kh l=q:=⟨_,rfl⟩
       rw [hq];have HQQ:=Zh hq;clear hpl hi hp hpb hr hk hq;refine hK _ _ (nm ?_);clear hK K;refine tk (.agg #[.slice ia n1 c1,.slice aa n2 c2]) ?_;refine tk (.agg #[.int .i64 f,.int .i64 (0+(k:Int)),.int .u32 ((a.seq+q)%M32),.slice ta n9 tc]) ?_;refine tk (.nilIface) ?_;refine J3 (cs:=#[.slice ia n1 c1,.slice aa n2 c2]) HM12.rb rfl KE (XG _ _ _ _ _ _) rfl rfl rfl ?_;intro w13 hD hO hlD;have HI13:=Zh (HI.only HM12.rb (J3m _ _ _ _ _ _) hO);have HP13:=Zh (HP.only hO fun b o n c e=>by have h1:=HPB.out b (by rw [e];rfl);have h2:=HM12.lt;have h3:=HWS.out;omega);have HM13:=Zh (HM12.setR hO hD);clear hD hO hlD HI HP HM12;refine nm ?_;refine J3 (cs:=#[.int .i64 f,.int .i64 (0+(k:Int)),.int .u32 ((a.seq+q)%M32),.slice ta n9 tc]) HM13.tb rfl JG (Kj _ _ _ _ _ _) rfl rfl rfl ?_;intro w14 hD hO hlD;have HI14:=Zh (HI13.only HM13.tb (qY _ _ _ _ _ _) hO);have HP14:=Zh (HP13.only hO fun b o n c e=>by have h1:=HPB.out b (by rw [e];rfl);have h3:=HWS.out;omega);have HM14:=Zh (HM13.setT hO hD);have HT14:=Zh (HTI.out _ HM14.bel);clear hD hO hlD HI13 HP13 HM13;refine nm ?_;refine tk (.nilIface) ?_;go_wp2_with fail
       refine bodyPost_ret (v:=.tuple #[.agg #[.slice ia n1 c1,.slice aa n2 c2],.agg #[.int .i64 f,.int .i64 (0+(k:Int)),.int .u32 ((a.seq+q)%M32),.slice ta n9 tc],.nilIface]) (Qm rfl _ _ rB tB #[.slice ia n1 c1,.slice aa n2 c2] #[.int .i64 f,.int .i64 (0+(k:Int)),.int .u32 ((a.seq+q)%M32),.slice ta n9 tc] _ _ .nilIface rfl rfl rfl Tryz.underlying214 Tryz.underlying58 rfl rfl KE JG (HM14.rb.all rfl) (HM14.tb.all rfl)) rfl ⟨.inr ⟨l,⟨f,0,a.seq,r⟩,ia,n1,c1,aa,n2,c2,pl,ta,n9,tc,HNX2.out,by rw [HKK.out,HQQ.out],HPL.out,HI14.out,HP14.out,HT14.out,HTL.out.1,fun b' o e=>⟨qo,m,fc,by rw [HTL.out.2 b' o e]⟩,fun j hj=>by have h1:=HPB.out j hj;have h2:=HWS.out;omega,HFF.out.1,HFF.out.2⟩,HGB.out ▸ HM14.bel⟩
 · have HNX:Hid (nxt X g a=some (l,a)):=Zh (by unfold nxt;rw [hr]);have HPL:=Zh hpl;have HI5:=Zh hi;have HP5:=Zh hp;have HPB:=Zh hpb;have HFF:Hid (Fresh w.heap.size (.slice ia n1 c1)∧∀x∈pl,Fresh w.heap.size x.2):=Zh (by
    have h1:=HM5.lt
    have h2:=HT5.out
    have h3:=HGB.out
    exact⟨fun b o n c e=>by have:=hff.1 b o n c e;omega,fun x hx b o n c e=>by have:=hff.2 x hx b o n c e;omega⟩)
   clear hff;have HPT:Hid (∀j,Value.ownBlock (.slice aa n2 c2)=some j→j<w5.heap.size):=Zh (HP5.own_lt (by unfold pOf;rw [List.length_map,Qv];exact (JP.1 (QE hr).1).1));obtain⟨k,hk⟩:∃k,(Jf a.seq l).1.length=k:=⟨_,rfl⟩
   rw [hk];have HKK:=Zh hk;obtain⟨q,hq⟩:∃q,Kh l=q:=⟨_,rfl⟩
   rw [hq];have HQQ:=Zh hq;clear hpl hi hp hpb hr hk hq HGF;refine hK _ _ (nm ?_);clear hK K;refine tk (.tuple #[.agg #[.slice ia n1 c1,.slice aa n2 c2],.agg #[.int .i64 a.seg,.int .i64 (a.off+(k:Int)),.int .u32 ((a.seq+q)%M32),.slice fa m fc],.nilIface]) ?_;refine tk (.agg #[.slice ia n1 c1,.slice aa n2 c2]) ?_;refine tk (.agg #[.int .i64 a.seg,.int .i64 (a.off+(k:Int)),.int .u32 ((a.seq+q)%M32),.slice fa m fc]) ?_;refine tk (.nilIface) ?_;refine J4 Xz rfl ?_;intro w6 hx hb6 hl6;refine nm ?_;refine J4 Q2 rfl ?_;intro w7 he hb7 hl7;refine nm ?_;have HM7:=Zh ((HM5.below hb6).below hb7);have HI7:=Zh ((HI5.below hb6).below hb7);have HP7:=Zh ((HP5.below hb6).below hb7);have HX7:=Zh (hx.below hb7 hx.lt);have HE7:=Zh he;have HL7:Hid (w5.heap.size<w6.heap.size∧w6.heap.size<w7.heap.size):=Zh ⟨hl6,hl7⟩;clear hx hb6 hl6 he hb7 hl7 HM5 HI5 HP5;refine J3 (cs:=#[.slice ia n1 c1,.slice aa n2 c2]) HX7.out rfl KE (XG _ _ _ _ _ _) rfl rfl rfl ?_;intro w8 hD hO hlD;have HM8:=Zh (HM7.other hO (by have h1:=HT5.out;omega));have HI8:=Zh (HI7.only HX7.out (J3m none none 0 0 0 0) hO);have HP8:=Zh (HP7.only hO fun b o n c e=>by have h1:=HPT.out b (by rw [e];rfl);omega);have HX8:=Zh hD;have HE8:=Zh (HE7.only hO (by have h1:=HL7.out;omega));clear hD hO hlD HM7 HI7 HP7 HX7 HE7;refine nm ?_;refine J3 (cs:=#[.int .i64 a.seg,.int .i64 (a.off+(k:Int)),.int .u32 ((a.seq+q)%M32),.slice fa m fc]) HE8.out rfl JG (Kj _ _ _ _ _ _) rfl rfl rfl ?_;intro w9 hD hO hlD;have HM9:=Zh (HM8.other hO (by have h1:=HT5.out;have h2:=HL7.out;omega));have HI9:=Zh (HI8.only HE8.out (qY 0 0 0 none 0 0) hO);have HP9:=Zh (HP8.only hO fun b o n c e=>by have h1:=HPT.out b (by rw [e];rfl);have h2:=HL7.out;omega);have HX9:=Zh (HX8.only hO (by have h1:=HL7.out;omega));have HE9:=Zh hD;have HLX:Hid (rB<tB∧tB<w5.heap.size∧w5.heap.size<w6.heap.size∧w.heap.size<rB∧tB<w4.heap.size∧w4.heap.size≤w5.heap.size):=Zh ⟨HM8.lt.2.2.2.1,by have h1:=HT5.out;omega,HL7.out.1,by have h1:=HM8.lt;omega,HT5.out.1,HT5.out.2⟩;have HFO:Hid (∀b' o n c,Value.slice fa m fc=.slice (some ⟨b',o,none⟩) n c→b'<w.heap.size):=HFB;clear hD hO hlD HM8 HI8 HP8 HX8 HE8 HT5 HL7 HPT;generalize w4.heap.size=cB at *;generalize w5.heap.size=xB at *;generalize w6.heap.size=eB at *;refine nm ?_;refine tk (.nilIface) ?_;refine Zn ?_;have q3:=HM9.ab.cell (i:=3) rfl
   go_wp2_with fail
   refine (Yu 17 false rfl _).mono ?_;rintro e w10 ⟨rfl,hb⟩;have HM:=Zh (HM9.below hb);have HI:=Zh (HI9.below hb);have HP:=Zh (HP9.below hb);have HXB:=Zh (HX9.below hb HX9.lt);have HEB:=Zh (HE9.below hb HE9.lt);have HF:=Zh (HF0.below HM.bel);clear hb HM9 HI9 HP9 HX9 HE9 q3;have q3:=HM.ab.cell (i:=3) rfl;go_upto_region 3 with fail;refine J9 (fun wq=>Only (fun j=>j=rB∨j=tB) w10 wq) (by kernel_rfl) ?_;have HSd:Hid (Only (fun j=>j=rB∨j=tB) w10 w10.drew):=Zh (Only.refl _ _).drew;have HXW:Hid (∀wq,Only (fun j=>j=rB∨j=tB) w10 wq→Blk wq xB [.slice ia n1 c1,.slice aa n2 c2]):=Zh fun wq hS=>HXB.only hS (by have h1:=HLX.out;omega);have HEW:Hid (∀wq,Only (fun j=>j=rB∨j=tB) w10 wq→Blk wq eB [.int .i64 a.seg,.int .i64 (a.off+(k:Int)),.int .u32 ((a.seq+q)%M32),.slice fa m fc]):=Zh fun wq hS=>HEB.only hS (by have h1:=HLX.out;omega);have HMd:=Zh (HM.below (Below.refl _ _).drew);have HId:=Zh (HI.below (Below.refl _ _).drew);have HPd:=Zh (HP.below (Below.refl _ _).drew);have HFd:=Zh (HF.below (Below.refl _ _).drew);generalize w10.drew=wS at *;refine th 0 29 (.agg #[.slice ia n1 c1,.slice aa n2 c2]) HSd.out ?_ (hy:=fun wq hS=>by have q:=HXW.out wq hS;have q0:=q.cell (i:=0) rfl;have q1:=q.cell (i:=1) rfl;go_simp);refine th 1 30 (.agg #[.int .i64 a.seg,.int .i64 (a.off+(k:Int)),.int .u32 ((a.seq+q)%M32),.slice fa m fc]) HSd.out ?_ (hy:=fun wq hS=>by have q:=HEW.out wq hS;have q0:=q.cell (i:=0) rfl;have q1:=q.cell (i:=1) rfl;have q2:=q.cell (i:=2) rfl;have q3:=q.cell (i:=3) rfl;go_simp);refine th 2 31 (.nilIface) HSd.out ?_;refine Zo 3 fun K hK=>?_;refine JA 214 _ _ rfl rB #[.slice ia n1 c1,.slice aa n2 c2] rfl rfl _ HMd.rb rfl KE (XG _ _ _ _ _ _) ?_;intro u10 hD hO;have HS10:Hid (Only (fun j=>j=rB∨j=tB) w10 u10):=Zh (HSd.trans (hO.more fun j _ hj=>.inl hj));have HM10:=Zh (HMd.setR hO hD);have HI10:=Zh (HId.only HMd.rb (J3m _ _ _ _ _ _) hO);have HP10:=Zh (HPd.only hO fun b o n c e=>by have h1:=HPB.out b (by rw [e];rfl);have h2:=HLX.out;omega);have HF10:=Zh (HFd.only hO fun b o n c e=>by have h1:=HFO.out b o n c e;have h2:=HLX.out;omega);refine hK _ _ HS10.out ?_;clear hK K hD hO;refine nm ?_;refine Zo 4 fun K hK=>?_;refine JA 58 _ _ rfl tB #[.int .i64 a.seg,.int .i64 (a.off+(k:Int)),.int .u32 ((a.seq+q)%M32),.slice fa m fc] rfl rfl _ HM10.tb rfl JG (Kj _ _ _ _ _ _) ?_;intro u11 hD hO;have HS11:Hid (Only (fun j=>j=rB∨j=tB) w10 u11):=Zh (HS10.trans (hO.more fun j _ hj=>.inr hj));have HM11:=Zh (HM10.setT hO hD);have HI11:=Zh (HI10.only HM10.tb (qY _ _ _ _ _ _) hO);have HP11:=Zh (HP10.only hO fun b o n c e=>by have h1:=HPB.out b (by rw [e];rfl);have h2:=HLX.out;omega);have HF11:=Zh (HF10.only hO fun b o n c e=>by have h1:=HFO.out b o n c e;have h2:=HLX.out;omega);refine hK _ _ HS11.out ?_;clear hK K hD hO;refine nm ?_;refine th 5 8 (.nilIface) HS11.out ?_;refine Zd ?_
   go_wp2_with fail
   refine bodyPost_ret (v:=.tuple #[.agg #[.slice ia n1 c1,.slice aa n2 c2],.agg #[.int .i64 a.seg,.int .i64 (a.off+(k:Int)),.int .u32 ((a.seq+q)%M32),.slice fa m fc],.nilIface]) (Qm rfl _ _ rB tB #[.slice ia n1 c1,.slice aa n2 c2] #[.int .i64 a.seg,.int .i64 (a.off+(k:Int)),.int .u32 ((a.seq+q)%M32),.slice fa m fc] _ _ (.nilIface) rfl rfl rfl Tryz.underlying214 Tryz.underlying58 rfl rfl KE JG (HM11.rb.all rfl) (HM11.tb.all rfl)) rfl ⟨.inr ⟨l,a,ia,n1,c1,aa,n2,c2,pl,fa,m,fc,HNX.out,by rw [HKK.out,HQQ.out],HPL.out,HI11.out,HP11.out,HF11.out,HCP.out,fun b o e=>⟨o,m,fc,by rw [e]⟩,fun j hj=>by have h1:=HPB.out j hj;have h2:=HLX.out;omega,HFF.out.1,HFF.out.2⟩,HGB.out ▸ HM11.bel⟩
end
open Go.RowKit
variable {B b c i n:Nat} {F:Nat→Prop} {K:Act→World→Prop} {Q:Exit→Act→World→Prop} {X:List (List Int)} {a:Act} {l:List Int} {o:Oper} {sv:Value} {w w':World}
abbrev gcs(l:List (Value×Value)):List Value:=l.flatMap fun p=>[p.1,p.2]
theorem Jgf(l:List (Value×Value)){p:Value×Value}(h:l[i]? = some p):(gcs l)[i*2]? = some p.1∧(gcs l)[i*2+1]? = some p.2:=by
 induction l generalizing i with
 | nil=>simp at h
 | cons q l ih =>
  cases i with
  | zero =>
   simp only [List.getElem?_cons_zero,Option.some.injEq] at h;subst h;exact⟨rfl,rfl⟩
  | succ i =>
   simp only [List.getElem?_cons_succ] at h;have:=ih h;have e1:(i+1)*2=i*2+2:=by omega
   rw [e1];simp only [gcs,List.flatMap_cons] at this ⊢;exact this
def OwnG(w:World)(B:Nat)(sv:Value)(l:List (Value×Value)):Prop:=w.ownsRow B 214 2 sv l.length (gcs l)
theorem OwnG.nil(w:World)(B:Nat):OwnG w B (.slice none 0 0) []:=World.ownsRow_nil w B 214 2
theorem OwnG.lt{l:List (Value×Value)}(h:OwnG w B sv l):∀k,sv.ownBlock=some k→B≤k∧k<w.heap.size:=World.ownsRow.lt h
theorem OwnG.below{l:List (Value×Value)}(h:OwnG w B sv l)(hb:Below w.heap.size w w'):OwnG w' B sv l:=by
 refine⟨h.1,?_⟩;rcases h.2 with hn|⟨g,cap,cur,e,hB,hg,r⟩
 · exact .inl hn
 · exact .inr ⟨g,cap,cur,e,hB,(hb.block g (Array.getElem?_eq_some_iff.1 hg).1).trans hg,r⟩
theorem OwnG.only{l:List (Value×Value)}(h:OwnG w B sv l)(ho:Only F w w')(hF:∀k,B≤k→k<w.heap.size→¬F k):OwnG w' B sv l:=by
 refine⟨h.1,?_⟩;rcases h.2 with hn|⟨g,cap,cur,e,hB,hg,r⟩
 · exact .inl hn
 · have hl:=(Array.getElem?_eq_some_iff.1 hg).1;exact .inr ⟨g,cap,cur,e,hB,(ho.block g hl (hF g hB hl)).trans hg,r⟩
theorem OwnG.len{l:List (Value×Value)}(h:OwnG w B sv l):∃a c,sv=.slice a l.length c∧l.length≤c:=by
 rcases h.2 with ⟨e,h0⟩|⟨g,cap,cur,e,_,_,hn,_⟩
 · exact⟨none,0,by rw [e,h0],by omega⟩
 · exact⟨_,cap,e,hn⟩
theorem OwnG.at{l:List (Value×Value)}(h:OwnG w B sv l){p:Value×Value}(hi:l[i]? = some p):∃g cap,sv=.slice (some ⟨g,0,none⟩) l.length cap∧l.length≤cap∧w.cell? ⟨g,i*2,none⟩=some p.1∧w.cell? ⟨g,i*2+1,none⟩=some p.2:=by
 have hil:=(List.getElem?_eq_some_iff.1 hi).1;rcases id h.2 with ⟨e,h0⟩|⟨g,cap,cur,rfl,hb,hg,hn,hm,hs,ht⟩
 · omega
 · obtain⟨h1,h2⟩:=Jgf l hi;exact⟨g,cap,rfl,hn,by rw [World.ownsRow.cellAt h (i*2) (by omega),h1],by rw [World.ownsRow.cellAt h (i*2+1) (by omega),h2]⟩
theorem J9r:(Tryz.prog.info? 214).map (fun i=>(i.size,i.bytes))=some (2,48):=by kernel_rfl
theorem J9s:∃i,Tryz.prog.info? 214=some i∧i.zero=some (.agg #[.slice none 0 0,.slice none 0 0])∧i.size=2∧i.bytes=48:=by
 have h1:=J9r;have h2:=Xz;cases hq:Tryz.prog.info? 214 with
 | none=>simp [hq] at h1
 | some i =>
  simp [hq] at h1 h2;exact⟨i,rfl,h2,h1⟩
theorem J9t{l:List (Value×Value)}(h:OwnG w B sv l)(hB:B≤w.heap.size)(g0:Nat)(p:Value×Value)(c0:w.cell? ⟨g0,0,none⟩=some p.1)(c1:w.cell? ⟨g0,1,none⟩=some p.2)(h1:p.1.oneCell'=true∧p.2.oneCell'=true)(hlen:l.length+1≤100000)(ty:TypeId) :
 ∃sv' w',(Builtin.append_ #[210,210] ty #[sv,.slice (some ⟨g0,0,none⟩) 1 1]).run Tryz.prog w=.ok sv' w'∧OwnG w' B sv' (l++[p])∧w.grownBy w' sv.ownBlock∧(sv'.ownBlock=sv.ownBlock∨sv'.ownBlock=some w.heap.size):=by
 obtain⟨i,hi,hz,hs,hby⟩:=J9s;obtain⟨v',w',hr,h2,h3,_,h5⟩:=run_append_own_at (P:=Tryz.prog) w B 210 ty 214 i (.agg #[.slice none 0 0,.slice none 0 0]) 2 48 Tryz.underlying210 hi hz hs hby rfl (by decide) sv l.length (gcs l) h ⟨g0,0,none⟩ 1 1 [p.1,p.2] rfl (fun j u hu=>by
  rw [show (⟨g0,0,none⟩:Addr).add j=⟨g0,j,none⟩ by unfold Addr.add;split <;> simp_all]
  match j,hu with
  | 0,hu=>simp at hu;subst hu;exact c0
  | 1,hu=>simp at hu;subst hu;exact c1
  | j+2,hu=>simp at hu) (fun u hu=>by
   simp only [List.mem_cons,List.not_mem_nil,or_false] at hu
   rcases hu with rfl|rfl
   · exact h1.1
   · exact h1.2) (by simp only [maxLen];omega) (by omega) hB
 refine⟨v',w',hr,?_,h3,h5⟩;unfold OwnG;rw [List.length_append,show gcs (l++[p])=gcs l++[p.1,p.2] by simp [gcs]];exact h2
theorem J9u(w:World)(x y:Value)(hx:x.oneCell'=true)(hy:y.oneCell'=true):(Instr.buildSlice 210 1 #[(0,Value.agg #[x,y])]).run Tryz.prog w=.ok (.slice (some ⟨w.heap.size,0,none⟩) 1 1) (w.alloc (.cells #[x,y] 214)):=by
 obtain⟨i,hi,hz,hs,-⟩:=J9s;refine Go.run_buildSlice (P:=Tryz.prog) w 210 214 1 _ #[x,y] i _ Tryz.underlying210 hi hz (by rw [hs];omega) (by rw [hs];omega) ?_;rw [hs];have hv:∀v∈[Value.agg #[x,y]],v.cells.size=2:=fun v hv=>by
  obtain rfl:=List.mem_singleton.1 hv;rfl
 obtain⟨r,hr,hrs,hk⟩:=Go.Great.fill_dense (s:=2) (by decide) [Value.agg #[x,y]] 0 ((Array.range (1*2)).map fun k=>(Value.agg #[.slice none 0 0,.slice none 0 0]).cells[k%(Value.agg #[.slice none 0 0,.slice none 0 0]).cells.size]!) hv (by simp);have hcells:r=#[x,y]:=by
  apply Array.ext_getElem?;intro k;rw [hk k]
  match k with
  | 0=>simp [Value.cells]
  | 1=>simp [Value.cells]
  | k+2=>simp
 rw [hcells] at hr;exact hr
def Cl(B:Nat)(r:Option Nat)(v:Value):Prop:=∀b o n c,v=.slice (some ⟨b,o,none⟩) n c→B≤b∧some b≠r
theorem ItemsAt.keepF{l:List (It×Value)}(h:ItemsAt w sv l)(ho:Only F w w')(hn:∀b o n c,sv=.slice (some ⟨b,o,none⟩) n c→b<w.heap.size→¬F b)(hx:∀x∈l,0<x.1.blk.bytes.length→∀b o n c,x.2=.slice (some ⟨b,o,none⟩) n c→b<w.heap.size→¬F b):ItemsAt w' sv l:=by
 obtain⟨a,cap,e,hcap,hc⟩:=h;refine⟨a,cap,e,hcap,fun i x hi=>?_⟩;obtain⟨h1,h2,g,o,h3,h4⟩:=hc i x hi;refine⟨h1,?_,g,o,h3,fun j hj=>?_⟩
 · obtain⟨a2,c2,e2,hc2⟩:=h2;refine⟨a2,c2,e2,fun k z hz=>?_⟩;obtain⟨b,o2,e3,hz2⟩:=hc2 k z hz;refine⟨b,o2,e3,?_⟩;have hl:0<x.1.blk.bytes.length:=by have:=(List.getElem?_eq_some_iff.1 hz).1;omega
   rw [←hz2];simp only [World.cell?,ho.block b (block_lt_of_cell hz2) (hx x (List.mem_of_getElem? hi) hl b o2 _ _ (by rw [e2,e3]) (block_lt_of_cell hz2))]
 · rw [←h4 j hj];simp only [World.cell?,ho.block g (block_lt_of_cell (h4 j hj)) (hn g o _ _ (by rw [e,h3]) (block_lt_of_cell (h4 j hj)))]
theorem ItemsAt.lt{l:List (It×Value)}(h:ItemsAt w sv l)(hl:0<l.length){o:Nat}(e:sv=.slice (some ⟨b,o,none⟩) n c):b<w.heap.size:=by
 obtain⟨a,cap,e2,hcap,hc⟩:=h;obtain⟨h1,h2,g,o2,h3,h4⟩:=hc 0 _ (List.getElem?_eq_getElem hl);rw [h3,e] at e2;cases e2;exact h4.lt (by rw [It.arr_size h1];decide)
def Apt(B:Nat)(r:Option Nat)(w:World)(p:Value×Value)(x:List It×List Int):Prop:=∃pl,ItemsAt w p.1 pl∧pl.map (·.1)=x.1∧IntsAt w p.2 x.2∧0<pl.length∧0<x.2.length∧Cl B r p.1∧Cl B r p.2∧∀y∈pl,0<y.1.blk.bytes.length→Cl B r y.2
theorem Apt.only{r:Option Nat}{p:Value×Value}{x:List It×List Int}(h:Apt B r w p x)(ho:Only F w w')(hF:∀b,B≤b→b<w.heap.size→some b≠r→¬F b):Apt B r w' p x:=by
 obtain⟨pl,h1,h2,h3,h4,h5,h6,h7,h8⟩:=h;refine⟨pl,h1.keepF ho (fun b o n c e hb=>hF b (h6 b o n c e).1 hb (h6 b o n c e).2) (fun y hy hl b o n c e hb=>hF b (h8 y hy hl b o n c e).1 hb (h8 y hy hl b o n c e).2),h2,?_,h4,h5,h6,h7,h8⟩;exact h3.onlyF ho fun b o n c e=>hF b (h7 b o n c e).1 (h3.lt h5 e) (h7 b o n c e).2
theorem Apt.below{r:Option Nat}{p:Value×Value}{x:List It×List Int}(h:Apt B r w p x)(hb:Below w.heap.size w w'):Apt B r w' p x:=h.only (Only.of_belowB hb) fun b _ hl _=>by omega
theorem Apt.grown{r r':Option Nat}{p:Value×Value}{x:List It×List Int}(h:Apt B r w p x)(hg:w.grownBy w' r)(hr:r'=r∨r'=some w.heap.size):Apt B r' w' p x:=by
 have ho:Only (fun k=>some k=r) w w':=(Only.refl _ w).grown hg fun k hk=>.inl hk.symm;obtain⟨pl,h1,h2,h3,h4,h5,h6,h7,h8⟩:=h;have key:∀b,b<w.heap.size→some b≠r→some b≠r':=fun b hb hne=>by
  rcases hr with rfl|rfl
  · exact hne
  · intro e;have:=Option.some.inj e;omega
 refine⟨pl,h1.keepF ho (fun b o n c e _=>(h6 b o n c e).2) (fun y hy hl b o n c e _=>(h8 y hy hl b o n c e).2),h2,h3.onlyF ho (fun b o n c e=>(h7 b o n c e).2),h4,h5,fun b o n c e=>⟨(h6 b o n c e).1,key b (h1.lt h4 e) (h6 b o n c e).2⟩,fun b o n c e=>⟨(h7 b o n c e).1,key b (h3.lt h5 e) (h7 b o n c e).2⟩,fun y hy hl b o n c e=>⟨(h8 y hy hl b o n c e).1,key b ((h1.bytes y hy).2.lt hl e) (h8 y hy hl b o n c e).2⟩⟩
structure Gs (B:Nat) (w:World) (sv:Value) (P:List (List It×List Int)) (l:List (Value×Value)):Prop where
 own:OwnG w B sv l
 len:l.length=P.length
 dat:∀(i:Nat) (p:Value×Value) (x:List It×List Int),l[i]? = some p→P[i]? = some x→Apt B sv.ownBlock w p x
theorem Gs.nil(w:World)(B:Nat):Gs B w (.slice none 0 0) [] []:=⟨OwnG.nil w B,rfl,fun i p x h=>by simp at h⟩
theorem Gs.below{P:List (List It×List Int)}{l:List (Value×Value)}(h:Gs B w sv P l)(hb:Below w.heap.size w w'):Gs B w' sv P l:=⟨h.own.below hb,h.len,fun i p x h1 h2=>(h.dat i p x h1 h2).below hb⟩
theorem Gs.only{P:List (List It×List Int)}{l:List (Value×Value)}(h:Gs B w sv P l)(ho:Only F w w')(hF:∀b,B≤b→b<w.heap.size→¬F b):Gs B w' sv P l:=⟨h.own.only ho hF,h.len,fun i p x h1 h2=>(h.dat i p x h1 h2).only ho fun b hb hl _=>hF b hb hl⟩
theorem Jgg{P:List (List It×List Int)}{l:List (Value×Value)}(x y:Operand)(dst:Option Tmp)(hd:o.dst=dst)(ho:o.op=.call { callee:=.builtin .append,args:=#[x,y],argTypes:=#[210,210] })(h:Gs B w sv P l)(hB:B≤w.heap.size)(g0:Nat)(p:Value×Value)(q:List It×List Int)(c0:w.cell? ⟨g0,0,none⟩=some p.1)(c1:w.cell? ⟨g0,1,none⟩=some p.2)(h1:p.1.oneCell'=true∧p.2.oneCell'=true)(hlen:P.length+1≤100000)(hap:Apt B sv.ownBlock w p q)(hx:a.eval x=sv)(hy:a.eval y=.slice (some ⟨g0,0,none⟩) 1 1)(hh:∀sv' w',Gs B w' sv' (P++[q]) (l++[p])→Below B w w'→w.grownBy w' sv.ownBlock→K (a.put dst sv') w'):o.wp Tryz.prog a w K Q:=by
 obtain⟨sv',w',hr,hO,hg,h5⟩:=J9t h.own hB g0 p c0 c1 h1 (by rw [h.len];exact hlen) o.type;refine Jb dst hd sv' w' (KR a.eval o x y 210 210 ho sv _ sv' hx hy hr) (hh sv' w' ⟨hO,by rw [List.length_append,List.length_append,h.len];rfl,fun i p' x' hp' hx'=>?_⟩ (K4 hg hB fun k hk=>(h.own.lt k hk).1) hg)
 by_cases hi:i<l.length
 · rw [List.getElem?_append_left hi] at hp';rw [List.getElem?_append_left (by rw [←h.len];exact hi)] at hx';exact (h.dat i p' x' hp' hx').grown hg h5
 · have hil:=(List.getElem?_eq_some_iff.1 hp').1;rw [List.length_append] at hil;simp only [List.length_cons,List.length_nil] at hil;have e:i=l.length:=by omega
   subst e;rw [List.getElem?_append_right (Nat.le_refl _),Nat.sub_self] at hp';rw [h.len,List.getElem?_append_right (Nat.le_refl _),Nat.sub_self] at hx';simp at hp' hx';subst hp';subst hx';exact hap.grown hg h5
def GsAt(w:World)(sv:Value)(P:List (List It×List Int)):Prop:=∃B l,Gs B w sv P l
theorem GsAt.form{P:List (List It×List Int)}(h:GsAt w sv P):∃a c,sv=.slice a P.length c:=by
 obtain⟨B,l,h⟩:=h;obtain⟨a,c,e,-⟩:=h.own.len;exact⟨a,c,by rw [e,h.len]⟩
def mm(g:Pl.Gm)(b:Ja):Nat:=(g.l-b.off).toNat+b.free.length*g.l.toNat
theorem qZ{g:Pl.Gm}{b:Ja}{l:List It}(h:gAt X g b=some l):JJ l=true∧(Jf b.seq l).1.length≤(g.l-b.off).toNat:=by
 obtain⟨h1,h2,-⟩:=QE h;have:=h2.length_le;rw [List.length_take] at this;exact⟨h1,by omega⟩
theorem Jgh{g:Pl.Gm}{b b1:Ja}{l:List It}(hg:b.good g=true)(h:nxt X g b=some (l,b1)):JJ l=true∧Nx g b b1 (Jf b.seq l).1.length∧ZN b b1:=by
 obtain⟨h1,h2,h3,h4,h5⟩:=Ja.good_parts hg;unfold nxt at h;cases e:gAt X g b with
 | some l' =>
  rw [e] at h;simp only [Option.some.injEq,Prod.mk.injEq] at h;obtain⟨rfl,rfl⟩:=h;obtain⟨k1,k2⟩:=qZ e;exact⟨k1,⟨rfl,h2,⟨h3,by omega⟩,h5,h1⟩,.inl rfl⟩
 | none =>
  rw [e] at h;simp only at h;cases hf:b.free with
  | nil =>
   rw [hf] at h;cases h
  | cons f r =>
   rw [hf] at h;simp only at h;obtain⟨l',e2,e3⟩:=Option.map_eq_some_iff.1 h;simp only [Prod.mk.injEq] at e3;obtain⟨rfl,rfl⟩:=e3;obtain⟨k1,k2⟩:=qZ e2;obtain⟨-,j2,j3,j4,j5⟩:=Ja.good_parts (YP hg hf);simp only at j2 j3 j4 j5 k2;exact⟨k1,⟨rfl,j2,⟨Int.le_refl _,by show (0:Int)+_≤_;omega⟩,j5,h1⟩,.inr ⟨f,r,hf,rfl⟩⟩
theorem Jdg{g:Pl.Gm}{b b1:Ja}{l:List It}(hg:b.good g=true)(hm:JJ l=true)(hnx:Nx g b b1 (Jf b.seq l).1.length)(hs:ZN b b1):mm g (aft b b1 l)<mm g b:=by
 have hp:=J9b hm b.seq;obtain⟨h1,h2,h3,h4,h5⟩:=Ja.good_parts hg;have hoff:=hnx.off;unfold mm aft;rcases hs with rfl|⟨f,r,hf,rfl⟩
 · simp only;omega
 · rw [hf];simp only [List.length_cons] at hoff ⊢;rw [Nat.add_mul];omega
theorem Jgi{g:Pl.Gm}{b:Ja}(hg:b.good g=true):mm g b≤1000:=by
 obtain⟨h1,h2,h3,h4,h5⟩:=Ja.good_parts hg;have hf:=Ja.few hg;have hl:=h1.2.2.1.2;unfold mm;have:b.free.length*g.l.toNat≤16*g.l.toNat:=Nat.mul_le_mul_right _ hf;omega
theorem IntsAt.low(h:IntsAt w sv l)(hb:Below B w w')(hB:∀b o n c,sv=.slice (some ⟨b,o,none⟩) n c→b<B):IntsAt w' sv l:=h.onlyF (Only.of_belowB hb) fun b o n c e=>by have:=hB b o n c e;omega
open Go.RowKit
theorem J1n:(Tryz.prog.info? 23).bind (·.zero)=some (.agg #[.int .i64 0,.int .i64 0,.int .i64 0,.int .i64 0]):=by kernel_rfl
theorem info23:(Tryz.prog.info? 23).map (·.size)=some 4:=by kernel_rfl
open Go.RowKit
theorem xU{α β:Type}{f:α→β}(hf:∀a b,f a=f b→a=b):∀(l m:List α),l.map f=m.map f→l=m
 | [],[],_=>rfl
 | [],_::_,h=>by simp at h
 | _::_,[],h=>by simp at h
 | a::l,b::m,h=>by
  simp only [List.map_cons,List.cons.injEq] at h;rw [hf a b h.1,xU hf l m h.2]
theorem Jdh{x y:List Int}(h:(u8s x).toArray=(u8s y).toArray):x=y:=by
 have h2:u8s x=u8s y:=by simpa using congrArg Array.toList h
 exact xU (fun a b e=>by injection e) _ _ h2
theorem Img.inj{d:De.D}{X Y:List (List Int)}(h:Img d X)(k:Img d Y):X=Y:=by
 have e:X.map (fun y=>(u8s y).toArray)=Y.map fun y=>(u8s y).toArray:=h.v.symm.trans k.v;exact xU (fun a b e=>Jdh e) _ _ e
end Go.Proofs.YtdbfmikeaoaebaaGreatDoor
