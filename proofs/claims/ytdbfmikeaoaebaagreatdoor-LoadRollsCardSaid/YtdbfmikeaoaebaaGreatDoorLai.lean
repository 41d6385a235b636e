/- Steps. -/
import Derived.Test.YtdbfmikeaoaebaaGreatDoorLah
import Derived.Maps.AppendAt
import Derived.Test.YtdbfmikeaoaebaaGreatDoorLag
set_option linter.unusedSimpArgs false
set_option linter.unusedVariables false
set_option maxRecDepth 100000
set_option maxHeartbeats 4000000
namespace Go.Proofs.YtdbfmikeaoaebaaGreatDoor
open Go.RowKit
def Jge(B:Nat)(g:Pl.Gm)(a:Ja)(fv:Value)(r:Option (List It×Ja))(e:Ending)(w':World):Prop :=
 (r=none∧∃v,e=.returned (.tuple #[.agg #[.slice none 0 0,.slice none 0 0],.agg #[.int .i64 0,.int .i64 0,.int .u32 0,.slice none 0 0],v])∧Fault w' 17 v) ∨
 ∃l b1 ia n1 c1 aa n2 c2 pl fq fn fc,r=some (l,b1)∧e=.returned (.tuple #[.agg #[.slice ia n1 c1,.slice aa n2 c2],.agg #[.int .i64 b1.seg,.int .i64 (b1.off+(Jd a.seq l).1.length),.int .u32 ((a.seq+Km l)%M32),.slice fq fn fc],.nilIface])∧pl.map (·.1)=l∧ItemsAt w' (.slice ia n1 c1) pl∧IntsAt w' (.slice aa n2 c2) (pOf g a b1 l)∧IntsAt w' (.slice fq fn fc) b1.free∧fn≤fc ∧
  (∀b' o,fq=some ⟨b',o,none⟩→∃o2 n c,fv=.slice (some ⟨b',o2,none⟩) n c)∧(∀j,Value.ownBlock (.slice aa n2 c2)=some j→B≤j)∧Fresh B (.slice ia n1 c1)∧∀x∈pl,Fresh B x.2
theorem Fm.other{w wx wy:World}{gB aB rB tB x:Nat}{g:Pl.Gm}{A R T:List Value}(h:Fm w wx gB aB rB tB g A R T)(ho:Only (fun k=>k=x) wx wy)(hx:tB<x):Fm w wy gB aB rB tB g A R T:=by
 obtain⟨l1,l2,l3,l4,l5⟩:=h.lt;exact⟨h.gb.only ho (by omega),h.ab.only ho (by omega),h.rb.only ho (by omega),h.tb.only ho (by omega),h.bel.trans (ho.below h.bel.size fun k hk=>by omega),l1,l2,l3,l4,Nat.lt_of_lt_of_le l5 ho.size⟩
section
variable {W w:World} {b:Nat} {F:Nat→Prop} {d:De.D} {g:Pl.Gm} {a:Ja} {fv:Value}
theorem Jap{X:List (List Int)}(h:De.Dv W w b F d)(hX:Img d X)(hLn:d.L.length≤1000000)(hbig:X.length≤1024)(hg:a.good g=true)(hq:Kh a.seq)(ht:4+g.s*g.l≤(X.length:Int))(hf:IntsAt w fv a.free)(hcap:∀q n c,fv=.slice q n c→n≤c)(hfo:∀b' o n c,fv=.slice (some ⟨b',o,none⟩) n c→b'<w.heap.size) :
 Calls Tryz.prog 128 #[.pointer (some ⟨b,0,none⟩),g.v,.agg #[.int .i64 a.seg,.int .i64 a.off,.int .u32 a.seq,fv]] w fun e w'=>Jge w.heap.size g a fv (nxt X g a) e w'∧Below w.heap.size w w':=by
 have HGA:Hid (∀w',Below w.heap.size w w'→Calls Tryz.prog 159 #[.pointer (some ⟨b,0,none⟩),g.v,.agg #[.int .i64 a.seg,.int .i64 a.off,.int .u32 a.seq,fv]] w' fun e w''=>Jam w'.heap.size g a fv (gAt X g a) e w''∧Below w'.heap.size w' w''):=Zh fun w' hb=>jS (h.below hb) hX hLn hbig hg hq ht (hf.below hb);have HGF:Hid (∀f r,a.free=f::r→∀w' fw,Below w.heap.size w w'→IntsAt w' fw r→Calls Tryz.prog 159 #[.pointer (some ⟨b,0,none⟩),g.v,.agg #[.int .i64 f,.int .i64 0,.int .u32 a.seq,fw]] w' fun e w''=>Jam w'.heap.size g ⟨f,0,a.seq,r⟩ fw (gAt X g ⟨f,0,a.seq,r⟩) e w''∧Below w'.heap.size w' w''):=Zh fun f r e w' fw hb hi=>jS (a:=⟨f,0,a.seq,r⟩) (h.below hb) hX hLn hbig (YR hg e) hq ht hi;have HF0:=Zh hf;have hfew:=Ja.few hg;obtain⟨fa,fc,hfv⟩:=hf.form;obtain⟨m,hm⟩:∃m,a.free.length=m:=⟨_,rfl⟩
 rw [hm] at hfv hfew;subst hfv;have HMN:=Zh hm;have HCP:=Zh (hcap _ _ _ rfl);have HFB:Hid (∀b' o n c,Value.slice fa m fc=.slice (some ⟨b',o,none⟩) n c→b'<w.heap.size):=Zh hfo;clear h hX hLn hbig hq ht hf hcap hfo hm;go_enter Tryz.func128,Tryz.ntmps128;go_upto_region 0 with fail;refine Zl ?_;refine JV (cs:=#[.int .i64 g.p,.int .i64 g.s,.int .i64 g.l,.int .i64 g.f]) rfl rfl ?_;intro w1 hG hb1 hl1;refine nm ?_;refine JV (cs:=#[.int .i64 a.seg,.int .i64 a.off,.int .u32 a.seq,.slice fa m fc]) rfl rfl ?_;intro w2 hA hb2 hl2;refine nm ?_;refine J4 XC rfl ?_;intro w3 hR hb3 hl3;refine nm ?_;refine J4 Q2 rfl ?_;intro w4 hT hb4 hl4;refine nm ?_;obtain⟨gB,hgB⟩:∃k,w.heap.size=k:=⟨_,rfl⟩
 have HM:Hid (Fm w w4 gB w1.heap.size w2.heap.size w3.heap.size g [.int .i64 a.seg,.int .i64 a.off,.int .u32 a.seq,.slice fa m fc] [.slice none 0 0,.slice none 0 0] [.int .i64 0,.int .i64 0,.int .u32 0,.slice none 0 0]):=Zh (by
  rw [←hgB]
  have b3:=hb3.trans (hb4.mono hb3.size)
  have b2:=hb2.trans (b3.mono hb2.size)
  exact⟨hG.below b2 hG.lt,hA.below b3 hA.lt,hR.below hb4 hR.lt,hT,hb1.trans (b2.mono hb1.size),Nat.le_refl _,hl1,hl2,hl3,hl4⟩)
 clear hG hb1 hl1 hA hb2 hl2 hR hb3 hl3 hT hb4 hl4;rw [hgB];have HGB:=Zh hgB;clear hgB;generalize w1.heap.size=aB at *;generalize w2.heap.size=rB at *;generalize w3.heap.size=tB at *;refine tk (.nilIface) ?_;go_upto_region 1 with fail;refine Zl ?_;refine tk (.pointer (some ⟨b,0,none⟩)) ?_;refine tk (.agg #[.int .i64 g.p,.int .i64 g.s,.int .i64 g.l,.int .i64 g.f]) ?_ (hr:=by have q:=HM.gb;have q0:=q.cell (i:=0) rfl;have q1:=q.cell (i:=1) rfl;have q2:=q.cell (i:=2) rfl;have q3:=q.cell (i:=3) rfl;go_simp);refine tk (.agg #[.int .i64 a.seg,.int .i64 a.off,.int .u32 a.seq,.slice fa m fc]) ?_ (hr:=by have q:=HM.ab;have q0:=q.cell (i:=0) rfl;have q1:=q.cell (i:=1) rfl;have q2:=q.cell (i:=2) rfl;have q3:=q.cell (i:=3) rfl;go_simp);refine J0 rfl fun K hK=>?_;go_simp;refine (HGA.out w4 HM.bel).mono ?_;rintro e w5 ⟨ho,hb⟩;have HM5:=Zh (HM.below hb);have HT5:Hid (tB<w4.heap.size∧w4.heap.size≤w5.heap.size):=Zh ⟨HM.lt.2.2.2.2,hb.size⟩;clear hb HM HGA;rcases ho with ⟨hr,v,rfl,hf⟩|⟨l,ia,n1,c1,aa,n2,c2,pl,hr,rfl,hpl,hi,hp,hpb,hff⟩
 · have HR:=Zh hr;obtain⟨T,dd,hv⟩:=hf.shape;subst hv;have HF5:=Zh hf;clear hf hr;refine hK _ _ (nm ?_);clear hK K;refine tk (.tuple #[.agg #[.slice none 0 0,.slice none 0 0],.agg #[.int .i64 0,.int .i64 0,.int .u32 0,.slice none 0 0],.iface T dd]) ?_;refine tk (.agg #[.slice none 0 0,.slice none 0 0]) ?_;refine tk (.agg #[.int .i64 0,.int .i64 0,.int .u32 0,.slice none 0 0]) ?_;refine tk (.iface T dd) ?_;refine J4 XC rfl ?_;intro w6 hx hb6 hl6;refine nm ?_;refine J4 Q2 rfl ?_;intro w7 he hb7 hl7;refine nm ?_;have HM7:=Zh ((HM5.below hb6).below hb7);have HF7:=Zh ((HF5.below hb6).below hb7);have HX7:=Zh (hx.below hb7 hx.lt);have HE7:=Zh he;have HL7:Hid (w5.heap.size<w6.heap.size∧w6.heap.size<w7.heap.size):=Zh ⟨hl6,hl7⟩;clear hx hb6 hl6 he hb7 hl7 HM5 HF5;refine J3 (cs:=#[.slice none 0 0,.slice none 0 0]) HX7.out rfl KJ (XM none none 0 0 0 0) rfl rfl rfl ?_;intro w8 hD hO hlD;have HM8:=Zh (HM7.other hO (by have h1:=HT5.out;omega));have HF8:=Zh (HF7.onlyB hO HX7.out (fun t=>by simp));have HX8:=Zh hD;have HE8:=Zh (HE7.only hO (by have h1:=HL7.out;omega));clear hD hO hlD HM7 HF7 HX7 HE7;refine nm ?_;refine J3 (cs:=#[.int .i64 0,.int .i64 0,.int .u32 0,.slice none 0 0]) HE8.out rfl JG (Kg _ _ _ _ _ _) rfl rfl rfl ?_;intro w9 hD hO hlD;have HM:=Zh (HM8.other hO (by have h1:=HT5.out;have h2:=HL7.out;omega));have HF:=Zh (HF8.onlyB hO HE8.out (fun t=>by simp));have HXB:=Zh (HX8.only hO (by have h1:=HL7.out;omega));have HEB:=Zh hD;have HLX:Hid (rB<tB∧tB<w5.heap.size∧w5.heap.size<w6.heap.size):=Zh ⟨HM8.lt.2.2.2.1,by have h1:=HT5.out;omega,HL7.out.1⟩;clear hD hO hlD HM8 HF8 HX8 HE8 HT5 HL7;generalize w5.heap.size=xB at *;generalize w6.heap.size=eB at *;refine nm ?_;refine tk (.iface T dd) ?_;refine Zn ?_;obtain⟨T',d',t',ts,hv,hc⟩:=id HF.out;cases hv;have HC:=Zh hc;clear hc;cases hfr:a.free with
   | nil =>
    have hm0:m=0:=by rw [←HMN.out,hfr];rfl
    subst hm0;have HNX:Hid (nxt X g a=none):=Zh (by unfold nxt;rw [HR.out];simp only [hfr]);have q3:=HM.ab.cell (i:=3) rfl;clear hfr
    go_wp2_with fail
    refine (YE 17 17 true rfl _ T dd _ HC.out).mono ?_;rintro e w10 ⟨rfl,hb⟩;have HM2:=Zh (HM.below hb);have HF2:=Zh (HF.below hb);have HXB2:=Zh (HXB.below hb HXB.lt);have HEB2:=Zh (HEB.below hb HEB.lt);clear hb HM HF HXB HEB HC q3;have HM:=HM2;have HF:=HF2;have HXB:=HXB2;have HEB:=HEB2;clear HM2 HF2 HXB2 HEB2;have q3:=HM.ab.cell (i:=3) rfl;go_upto_region 3 with fail;refine J9 (fun wq=>Only (fun j=>j=rB∨j=tB) w10 wq) (by kernel_rfl) ?_;have HSd:Hid (Only (fun j=>j=rB∨j=tB) w10 w10.drew):=Zh (Only.refl _ _).drew;have HXW:Hid (∀wq,Only (fun j=>j=rB∨j=tB) w10 wq→Blk wq xB [.slice none 0 0,.slice none 0 0]):=Zh fun wq hS=>HXB.only hS (by have h1:=HLX.out;omega);have HEW:Hid (∀wq,Only (fun j=>j=rB∨j=tB) w10 wq→Blk wq eB [.int .i64 0,.int .i64 0,.int .u32 0,.slice none 0 0]):=Zh fun wq hS=>HEB.only hS (by have h1:=HLX.out;omega);have HMd:=Zh (HM.below Zq.drew);have HFd:=Zh (HF.below Zq.drew);generalize w10.drew=wS at *;refine th 0 29 (.agg #[.slice none 0 0,.slice none 0 0]) HSd.out ?_ (hy:=fun wq hS=>by have q:=HXW.out wq hS;have q0:=q.cell (i:=0) rfl;have q1:=q.cell (i:=1) rfl;go_simp);refine th 1 30 (.agg #[.int .i64 0,.int .i64 0,.int .u32 0,.slice none 0 0]) HSd.out ?_ (hy:=fun wq hS=>by have q:=HEW.out wq hS;have q0:=q.cell (i:=0) rfl;have q1:=q.cell (i:=1) rfl;have q2:=q.cell (i:=2) rfl;have q3:=q.cell (i:=3) rfl;go_simp);refine th 2 31 (.iface T dd) HSd.out ?_;refine Zo 3 fun K hK=>?_;refine Jw 214 _ _ rfl rB #[.slice none 0 0,.slice none 0 0] rfl rfl _ HMd.rb rfl KJ (XM _ _ _ _ _ _) ?_;intro u10 hD hO;have HS10:Hid (Only (fun j=>j=rB∨j=tB) w10 u10):=Zh (HSd.trans (hO.more fun j _ hj=>.inl hj));have HM10:=Zh (HMd.setR hO hD);have HF10:=Zh (HFd.onlyB hO HMd.rb (fun t=>by simp));refine hK _ _ HS10.out ?_;clear hK K hD hO;refine nm ?_;refine Zo 4 fun K hK=>?_;refine Jw 58 _ _ rfl tB #[.int .i64 0,.int .i64 0,.int .u32 0,.slice none 0 0] rfl rfl _ HM10.tb rfl JG (Kg _ _ _ _ _ _) ?_;intro u11 hD hO;have HS11:Hid (Only (fun j=>j=rB∨j=tB) w10 u11):=Zh (HS10.trans (hO.more fun j _ hj=>.inr hj));have HM11:=Zh (HM10.setT hO hD);have HF11:=Zh (HF10.onlyB hO HM10.tb (fun t=>by simp));refine hK _ _ HS11.out ?_;clear hK K hD hO;refine nm ?_;refine th 5 8 (.iface T dd) HS11.out ?_;refine Zd ?_
    go_wp2_with fail
    refine bodyPost_ret (v:=.tuple #[.agg #[.slice none 0 0,.slice none 0 0],.agg #[.int .i64 0,.int .i64 0,.int .u32 0,.slice none 0 0],.iface T dd]) (Qr rfl _ _ rB tB #[.slice none 0 0,.slice none 0 0] #[.int .i64 0,.int .i64 0,.int .u32 0,.slice none 0 0] _ _ (.iface T dd) rfl rfl rfl Tryz.underlying214 Tryz.underlying58 rfl rfl KJ JG (HM11.rb.all rfl) (HM11.tb.all rfl)) rfl ⟨.inl ⟨HNX.out,_,rfl,HF11.out⟩,HGB.out ▸ HM11.bel⟩
   | cons f r =>
    have hm1:m=r.length+1:=by rw [←HMN.out,hfr];rfl
    have HGN:=Zh (HGF.out f r hfr);obtain⟨qb,qo,hfa,hq0⟩:∃b o,fa=some ⟨b,o,none⟩∧w.cell? ⟨b,o,none⟩=some (.int .i64 f):=by
     obtain⟨q',c',e,hc⟩:=HF0.out;obtain⟨b2,o2,h1,h2⟩:=hc 0 f (by rw [hfr];rfl);cases e;exact⟨b2,o2,h1,h2⟩
    subst hfa;have HQ:=Zh hq0;have HQL:=Zh (block_lt_of_cell hq0);have HT:Hid (∀w',Below w.heap.size w w'→IntsAt w' (.slice (K5 (some ⟨qb,qo,none⟩) 1 fc 1) (m-1) (fc-1)) r∧∀b o m' c,Value.slice (K5 (some ⟨qb,qo,none⟩) 1 fc 1) (m-1) (fc-1)=.slice (some ⟨b,o,none⟩) m' c→∃o2,(some ⟨qb,qo,none⟩:Option Addr)=some ⟨b,o2,none⟩):=Zh fun w' hb=>IntsAt.tail (x:=f) (r:=r) (by have:=HF0.below hb;rw [hfr] at this;exact this) HCP.out;have HNX:Hid (nxt X g a=(gAt X g ⟨f,0,a.seq,r⟩).map fun l=>(l,⟨f,0,a.seq,r⟩)):=Zh (by unfold nxt;rw [HR.out];simp only [hfr]);have hmz:((m:Int) == 0)=false:=by rw [beq_eq_false_iff_ne];omega
    have hmp:(0:Int)<(m:Int):=by omega
    have hmn:1≤m:=by omega
    have q3:=HM.ab.cell (i:=3) rfl;clear hfr hm1 hq0
    go_wp2_with fail
    refine (YE 17 17 true rfl _ T dd _ HC.out).mono ?_;rintro e w10 ⟨rfl,hb⟩;have HM2:=Zh (HM.below hb);clear hb HM HF HXB HEB HC q3 HGF;have HM:=HM2;clear HM2;have q3:=HM.ab.cell (i:=3) rfl;go_upto_region 4 with fail;clear q3
    go_cut [32] from 32 to 41 (fun s wx=>Blk wx aB [.int .i64 f,.int .i64 0,.int .u32 a.seq,.slice (K5 (some ⟨qb,qo,none⟩) 1 fc 1) (m-1) (fc-1)]∧Only (fun k=>k=aB) w10 wx)
    case first =>
     refine J9 (fun wq=>Only (fun k=>k=aB) w10 wq) (by kernel_rfl) ?_;have HSd:Hid (Only (fun k=>k=aB) w10 w10.drew):=Zh (Only.refl _ _).drew;have HVd:=Zh HM.ab.drew;have HQ3:Hid (∀wq,Only (fun k=>k=aB) w10 wq→wq.cell? ⟨qb,qo,none⟩=some (.int .i64 f)):=Zh fun wq hS=>hS.cellZ (a:=⟨qb,qo,none⟩) (by have h1:qb<w.heap.size:=HQL.out;have h2:=HM.lt;show ¬qb=aB;omega) ((HM.bel.cell (p:=⟨qb,qo,none⟩) HQL.out).trans HQ.out);have HVL:Hid (Only (fun k=>k=aB) w10 w10.drew):=HSd;generalize w10.drew=wS at *;refine th 0 32 (.pointer (some ⟨aB,3,none⟩)) HSd.out ?_;refine th 4 36 (.pointer (some ⟨aB,3,none⟩)) HSd.out ?_;refine kO 1 5 (by kernel_rfl) rfl rfl rfl rfl (fun K hK=>?_) (fun K hK=>?_)
     · refine Jf (some 33) rfl (.slice (some ⟨qb,qo,none⟩) m fc) wS (by have hq:=HVd.cell (i:=3) rfl;go_simp) ?_;refine hK _ _ HSd.out (nm ?_);clear hK K;refine th 2 34 (.pointer (some ⟨qb,qo,none⟩)) HSd.out ?_ (hy:=fun wq hS=>by have hm0:¬m=0:=(by omega);have hm1:(0:Int)<(m:Int):=hmp;go_simp);refine th 3 35 (.int .i64 f) HSd.out ?_ (hy:=fun wq hS=>by have q:=HQ3.out wq hS;go_simp);refine Zo 5 fun K hK=>?_;refine Jf (some 37) rfl (.slice (some ⟨qb,qo,none⟩) m fc) wS (by have hq:=HVd.cell (i:=3) rfl;go_simp) ?_;refine hK _ _ HSd.out (nm ?_);clear hK K;refine Jl 6 (some 38) (.slice (K5 (some ⟨qb,qo,none⟩) 1 fc 1) (m-1) (fc-1)) rfl rfl (by kernel_rfl) (by kernel_rfl) (by kernel_rfl) (fun _ _ _ h=>h) rfl (fun wq hS=>XB wq _ _ _ _ rfl (some ⟨qb,qo,none⟩) m fc 1 rfl rfl hmn) HSd.out ?_;refine nm ?_;refine th 7 39 (.pointer (some ⟨aB,0,none⟩)) HSd.out ?_;refine Zo 8 fun K hK=>?_;refine JZ none rfl (wS.setCell ⟨aB,0,none⟩ (.int .i64 f)) (by have hq:=HVd.cell (i:=0) rfl;have hf:=HVd.frozen 0;go_simp) ?_;have HSe:Hid (Only (fun k=>k=aB) w10 (wS.setCell ⟨aB,0,none⟩ (.int .i64 f))):=Zh (HSd.setCell (p:=⟨aB,0,none⟩) (.inl rfl) _);have HVe:=Zh (HVd.set 0 (.int .i64 f));refine hK _ _ HSe.out ?_;clear hK K;generalize wS.setCell ⟨aB,0,none⟩ (.int .i64 f)=wT at *;refine nm ?_;refine th 9 40 (.pointer (some ⟨aB,1,none⟩)) HSe.out ?_;refine Zo 10 fun K hK=>?_;refine JZ none rfl (wT.setCell ⟨aB,1,none⟩ (.int .i64 0)) (by have hq:=HVe.cell (i:=1) rfl;have hf:=HVe.frozen 1;go_simp) ?_;have HSf:Hid (Only (fun k=>k=aB) w10 (wT.setCell ⟨aB,1,none⟩ (.int .i64 0))):=Zh (HSe.setCell (p:=⟨aB,1,none⟩) (.inl rfl) _);have HVf:=Zh (HVe.set 1 (.int .i64 0));refine hK _ _ HSf.out ?_;clear hK K;generalize wT.setCell ⟨aB,1,none⟩ (.int .i64 0)=wU at *;refine nm ?_;refine th 11 41 (.pointer (some ⟨aB,3,none⟩)) HSf.out ?_;refine Zo 12 fun K hK=>?_;refine JZ none rfl (wU.setCell ⟨aB,3,none⟩ (.slice (K5 (some ⟨qb,qo,none⟩) 1 fc 1) (m-1) (fc-1))) (by have hq:=HVf.cell (i:=3) rfl;have hf:=HVf.frozen 3;go_simp) ?_;have HSg:Hid (Only (fun k=>k=aB) w10 (wU.setCell ⟨aB,3,none⟩ (.slice (K5 (some ⟨qb,qo,none⟩) 1 fc 1) (m-1) (fc-1)))):=Zh (HSf.setCell (p:=⟨aB,3,none⟩) (.inl rfl) _);have HVg:=Zh (HVf.set 3 (.slice (K5 (some ⟨qb,qo,none⟩) 1 fc 1) (m-1) (fc-1)));refine hK _ _ HSg.out ?_;clear hK K;generalize wU.setCell ⟨aB,3,none⟩ (.slice (K5 (some ⟨qb,qo,none⟩) 1 fc 1) (m-1) (fc-1))=wV at *;refine nm ?_;refine Zd ?_
       go_wp2_with fail
       go_meet
       exact⟨HVg.out,HSg.out⟩
     · refine Jf (some 37) rfl (.slice (some ⟨qb,qo,none⟩) m fc) wS (by have hq:=HVd.cell (i:=3) rfl;go_simp) ?_;refine hK _ _ HSd.out (nm ?_);clear hK K;refine Jl 6 (some 38) (.slice (K5 (some ⟨qb,qo,none⟩) 1 fc 1) (m-1) (fc-1)) rfl rfl (by kernel_rfl) (by kernel_rfl) (by kernel_rfl) (fun _ _ _ h=>h) rfl (fun wq hS=>XB wq _ _ _ _ rfl (some ⟨qb,qo,none⟩) m fc 1 rfl rfl hmn) HSd.out ?_;refine nm ?_;refine Zo 1 fun K hK=>?_;refine Jf (some 33) rfl (.slice (some ⟨qb,qo,none⟩) m fc) wS (by have hq:=HVd.cell (i:=3) rfl;go_simp) ?_;refine hK _ _ HSd.out (nm ?_);clear hK K;refine th 2 34 (.pointer (some ⟨qb,qo,none⟩)) HSd.out ?_ (hy:=fun wq hS=>by have hm0:¬m=0:=(by omega);have hm1:(0:Int)<(m:Int):=hmp;go_simp);refine th 3 35 (.int .i64 f) HSd.out ?_ (hy:=fun wq hS=>by have q:=HQ3.out wq hS;go_simp);refine th 7 39 (.pointer (some ⟨aB,0,none⟩)) HSd.out ?_;refine Zo 8 fun K hK=>?_;refine JZ none rfl (wS.setCell ⟨aB,0,none⟩ (.int .i64 f)) (by have hq:=HVd.cell (i:=0) rfl;have hf:=HVd.frozen 0;go_simp) ?_;have HSe:Hid (Only (fun k=>k=aB) w10 (wS.setCell ⟨aB,0,none⟩ (.int .i64 f))):=Zh (HSd.setCell (p:=⟨aB,0,none⟩) (.inl rfl) _);have HVe:=Zh (HVd.set 0 (.int .i64 f));refine hK _ _ HSe.out ?_;clear hK K;generalize wS.setCell ⟨aB,0,none⟩ (.int .i64 f)=wT at *;refine nm ?_;refine th 9 40 (.pointer (some ⟨aB,1,none⟩)) HSe.out ?_;refine Zo 10 fun K hK=>?_;refine JZ none rfl (wT.setCell ⟨aB,1,none⟩ (.int .i64 0)) (by have hq:=HVe.cell (i:=1) rfl;have hf:=HVe.frozen 1;go_simp) ?_;have HSf:Hid (Only (fun k=>k=aB) w10 (wT.setCell ⟨aB,1,none⟩ (.int .i64 0))):=Zh (HSe.setCell (p:=⟨aB,1,none⟩) (.inl rfl) _);have HVf:=Zh (HVe.set 1 (.int .i64 0));refine hK _ _ HSf.out ?_;clear hK K;generalize wT.setCell ⟨aB,1,none⟩ (.int .i64 0)=wU at *;refine nm ?_;refine th 11 41 (.pointer (some ⟨aB,3,none⟩)) HSf.out ?_;refine Zo 12 fun K hK=>?_;refine JZ none rfl (wU.setCell ⟨aB,3,none⟩ (.slice (K5 (some ⟨qb,qo,none⟩) 1 fc 1) (m-1) (fc-1))) (by have hq:=HVf.cell (i:=3) rfl;have hf:=HVf.frozen 3;go_simp) ?_;have HSg:Hid (Only (fun k=>k=aB) w10 (wU.setCell ⟨aB,3,none⟩ (.slice (K5 (some ⟨qb,qo,none⟩) 1 fc 1) (m-1) (fc-1)))):=Zh (HSf.setCell (p:=⟨aB,3,none⟩) (.inl rfl) _);have HVg:=Zh (HVf.set 3 (.slice (K5 (some ⟨qb,qo,none⟩) 1 fc 1) (m-1) (fc-1)));refine hK _ _ HSg.out ?_;clear hK K;generalize wU.setCell ⟨aB,3,none⟩ (.slice (K5 (some ⟨qb,qo,none⟩) 1 fc 1) (m-1) (fc-1))=wV at *;refine nm ?_;refine Zd ?_
       go_wp2_with fail
       go_meet
       exact⟨HVg.out,HSg.out⟩
    case rest =>
     obtain⟨hv,ho⟩:=hcut;have HM11:=Zh (HM.setA ho hv);have HT11:=Zh (HT.out _ HM11.bel);clear hv ho HM;obtain⟨ta,n9,tc,htv⟩:∃q n c,Value.slice (K5 (some ⟨qb,qo,none⟩) 1 fc 1) (m-1) (fc-1)=.slice q n c:=⟨_,_,_,rfl⟩
     have HTL:Hid (n9≤tc∧∀b' o,ta=some ⟨b',o,none⟩→b'=qb):=Zh (by
      have h2:=HT11.out.2
      have h3:=HCP.out
      rw [htv] at h2
      injection htv with e1 e2 e3
      exact⟨by omega,fun b' o e=>by
       obtain⟨o2,h4⟩:=h2 b' o n9 tc (by rw [e])
       injection h4 with h4
       exact (congrArg Addr.block h4).symm⟩)
     rw [htv] at HM11 HT11 HT;clear htv;have HTI:Hid (∀w',Below w.heap.size w w'→IntsAt w' (.slice ta n9 tc) r):=Zh fun w' hb=>(HT.out w' hb).1;have HGC:=Zh (HGN.out wc _ HM11.bel HT11.out.1);have HWS:Hid (w.heap.size≤wc.heap.size∧tB<wc.heap.size):=Zh ⟨HM11.bel.size,HM11.lt.2.2.2.2⟩;clear HGN HT HT11;go_upto_region 5 with fail;refine Zl ?_;refine tk (.pointer (some ⟨b,0,none⟩)) ?_;refine tk (.agg #[.int .i64 g.p,.int .i64 g.s,.int .i64 g.l,.int .i64 g.f]) ?_ (hr:=by have q:=HM11.gb;have q0:=q.cell (i:=0) rfl;have q1:=q.cell (i:=1) rfl;have q2:=q.cell (i:=2) rfl;have q3:=q.cell (i:=3) rfl;go_simp);refine tk (.agg #[.int .i64 f,.int .i64 0,.int .u32 a.seq,.slice ta n9 tc]) ?_ (hr:=by have q:=HM11.ab;have q0:=q.cell (i:=0) rfl;have q1:=q.cell (i:=1) rfl;have q2:=q.cell (i:=2) rfl;have q3:=q.cell (i:=3) rfl;go_simp);refine J0 rfl fun K hK=>?_;go_simp;refine (HGC.out).mono ?_;rintro e w12 ⟨ho,hb⟩;have HM12:=Zh (HM11.below hb);clear hb HM11 HGC;rcases ho with ⟨hr,v,rfl,hf⟩|⟨l,ia,n1,c1,aa,n2,c2,pl,hr,rfl,hpl,hi,hp,hpb,hff⟩
     · have HNX2:Hid (nxt X g a=none):=Zh (by rw [HNX.out,hr];rfl);have HFX:=Zh hf;obtain⟨T',d',hv⟩:=hf.shape;subst hv;clear hf hr;refine hK _ _ (nm ?_);clear hK K;refine tk (.agg #[.slice none 0 0,.slice none 0 0]) ?_;refine tk (.agg #[.int .i64 0,.int .i64 0,.int .u32 0,.slice none 0 0]) ?_;refine tk (.iface T' d') ?_;refine J3 (cs:=#[.slice none 0 0,.slice none 0 0]) HM12.rb rfl KJ (XM none none 0 0 0 0) rfl rfl rfl ?_;intro w13 hD hO hlD;have HF13:=Zh (HFX.onlyB hO HM12.rb (fun t=>by simp));have HM13:=Zh (HM12.setR hO hD);clear hD hO hlD HFX HM12;refine nm ?_;refine J3 (cs:=#[.int .i64 0,.int .i64 0,.int .u32 0,.slice none 0 0]) HM13.tb rfl JG (Kg _ _ _ _ _ _) rfl rfl rfl ?_;intro w14 hD hO hlD;have HF14:=Zh (HF13.onlyB hO HM13.tb (fun t=>by simp));have HM14:=Zh (HM13.setT hO hD);clear hD hO hlD HF13 HM13;refine nm ?_;refine tk (.iface T' d') ?_;go_wp2_with fail
       refine bodyPost_ret (v:=.tuple #[.agg #[.slice none 0 0,.slice none 0 0],.agg #[.int .i64 0,.int .i64 0,.int .u32 0,.slice none 0 0],.iface T' d']) (Qr rfl _ _ rB tB #[.slice none 0 0,.slice none 0 0] #[.int .i64 0,.int .i64 0,.int .u32 0,.slice none 0 0] _ _ (.iface T' d') rfl rfl rfl Tryz.underlying214 Tryz.underlying58 rfl rfl KJ JG (HM14.rb.all rfl) (HM14.tb.all rfl)) rfl ⟨.inl ⟨HNX2.out,_,rfl,HF14.out⟩,HGB.out ▸ HM14.bel⟩
     · have HNX2:Hid (nxt X g a=some (l,⟨f,0,a.seq,r⟩)):=Zh (by rw [HNX.out,hr];rfl);have HPL:=Zh hpl;have HI:=Zh hi;have HP:=Zh hp;have HPB:=Zh hpb;have HFF:Hid (Fresh w.heap.size (.slice ia n1 c1)∧∀x∈pl,Fresh w.heap.size x.2):=Zh ⟨fun b o n c e=>Nat.le_trans HWS.out.1 (hff.1 b o n c e),fun x hx b o n c e=>Nat.le_trans HWS.out.1 (hff.2 x hx b o n c e)⟩;clear hff;simp only;obtain⟨k,hk⟩:∃k,(Jd a.seq l).1.length=k:=⟨_,rfl⟩
       rw [hk];have HKK:=Zh hk;obtain⟨q,hq⟩:∃q,Km l=q:=⟨_,rfl⟩
       rw [hq];have HQQ:=Zh hq;clear hpl hi hp hpb hr hk hq;refine hK _ _ (nm ?_);clear hK K;refine tk (.agg #[.slice ia n1 c1,.slice aa n2 c2]) ?_;refine tk (.agg #[.int .i64 f,.int .i64 (0+(k:Int)),.int .u32 ((a.seq+q)%M32),.slice ta n9 tc]) ?_;refine tk (.nilIface) ?_;refine J3 (cs:=#[.slice ia n1 c1,.slice aa n2 c2]) HM12.rb rfl KJ (XM _ _ _ _ _ _) rfl rfl rfl ?_;intro w13 hD hO hlD;have HI13:=Zh (HI.only HM12.rb (J4i _ _ _ _ _ _) hO);have HP13:=Zh (HP.only hO fun b o n c e=>by have h1:=HPB.out b (by rw [e];rfl);have h2:=HM12.lt;have h3:=HWS.out;omega);have HM13:=Zh (HM12.setR hO hD);clear hD hO hlD HI HP HM12;refine nm ?_;refine J3 (cs:=#[.int .i64 f,.int .i64 (0+(k:Int)),.int .u32 ((a.seq+q)%M32),.slice ta n9 tc]) HM13.tb rfl JG (Kg _ _ _ _ _ _) rfl rfl rfl ?_;intro w14 hD hO hlD;have HI14:=Zh (HI13.only HM13.tb (xu _ _ _ _ _ _) hO);have HP14:=Zh (HP13.only hO fun b o n c e=>by have h1:=HPB.out b (by rw [e];rfl);have h3:=HWS.out;omega);have HM14:=Zh (HM13.setT hO hD);have HT14:=Zh (HTI.out _ HM14.bel);clear hD hO hlD HI13 HP13 HM13;refine nm ?_;refine tk (.nilIface) ?_;go_wp2_with fail
       refine bodyPost_ret (v:=.tuple #[.agg #[.slice ia n1 c1,.slice aa n2 c2],.agg #[.int .i64 f,.int .i64 (0+(k:Int)),.int .u32 ((a.seq+q)%M32),.slice ta n9 tc],.nilIface]) (Qr rfl _ _ rB tB #[.slice ia n1 c1,.slice aa n2 c2] #[.int .i64 f,.int .i64 (0+(k:Int)),.int .u32 ((a.seq+q)%M32),.slice ta n9 tc] _ _ .nilIface rfl rfl rfl Tryz.underlying214 Tryz.underlying58 rfl rfl KJ JG (HM14.rb.all rfl) (HM14.tb.all rfl)) rfl ⟨.inr ⟨l,⟨f,0,a.seq,r⟩,ia,n1,c1,aa,n2,c2,pl,ta,n9,tc,HNX2.out,by rw [HKK.out,HQQ.out],HPL.out,HI14.out,HP14.out,HT14.out,HTL.out.1,fun b' o e=>⟨qo,m,fc,by rw [HTL.out.2 b' o e]⟩,fun j hj=>by have h1:=HPB.out j hj;have h2:=HWS.out;omega,HFF.out.1,HFF.out.2⟩,HGB.out ▸ HM14.bel⟩
 · have HNX:Hid (nxt X g a=some (l,a)):=Zh (by unfold nxt;rw [hr]);have HPL:=Zh hpl;have HI5:=Zh hi;have HP5:=Zh hp;have HPB:=Zh hpb;have HFF:Hid (Fresh w.heap.size (.slice ia n1 c1)∧∀x∈pl,Fresh w.heap.size x.2):=Zh (by
    have h1:=HM5.lt
    have h2:=HT5.out
    have h3:=HGB.out
    exact⟨fun b o n c e=>by have:=hff.1 b o n c e;omega,fun x hx b o n c e=>by have:=hff.2 x hx b o n c e;omega⟩)
   clear hff;have HPT:Hid (∀j,Value.ownBlock (.slice aa n2 c2)=some j→j<w5.heap.size):=Zh (HP5.own_lt (by unfold pOf;rw [List.length_map,Qz];exact (JK.1 (QL hr).1).1));obtain⟨k,hk⟩:∃k,(Jd a.seq l).1.length=k:=⟨_,rfl⟩
   rw [hk];have HKK:=Zh hk;obtain⟨q,hq⟩:∃q,Km l=q:=⟨_,rfl⟩
   rw [hq];have HQQ:=Zh hq;clear hpl hi hp hpb hr hk hq HGF;refine hK _ _ (nm ?_);clear hK K;refine tk (.tuple #[.agg #[.slice ia n1 c1,.slice aa n2 c2],.agg #[.int .i64 a.seg,.int .i64 (a.off+(k:Int)),.int .u32 ((a.seq+q)%M32),.slice fa m fc],.nilIface]) ?_;refine tk (.agg #[.slice ia n1 c1,.slice aa n2 c2]) ?_;refine tk (.agg #[.int .i64 a.seg,.int .i64 (a.off+(k:Int)),.int .u32 ((a.seq+q)%M32),.slice fa m fc]) ?_;refine tk (.nilIface) ?_;refine J4 XC rfl ?_;intro w6 hx hb6 hl6;refine nm ?_;refine J4 Q2 rfl ?_;intro w7 he hb7 hl7;refine nm ?_;have HM7:=Zh ((HM5.below hb6).below hb7);have HI7:=Zh ((HI5.below hb6).below hb7);have HP7:=Zh ((HP5.below hb6).below hb7);have HX7:=Zh (hx.below hb7 hx.lt);have HE7:=Zh he;have HL7:Hid (w5.heap.size<w6.heap.size∧w6.heap.size<w7.heap.size):=Zh ⟨hl6,hl7⟩;clear hx hb6 hl6 he hb7 hl7 HM5 HI5 HP5;refine J3 (cs:=#[.slice ia n1 c1,.slice aa n2 c2]) HX7.out rfl KJ (XM _ _ _ _ _ _) rfl rfl rfl ?_;intro w8 hD hO hlD;have HM8:=Zh (HM7.other hO (by have h1:=HT5.out;omega));have HI8:=Zh (HI7.only HX7.out (J4i none none 0 0 0 0) hO);have HP8:=Zh (HP7.only hO fun b o n c e=>by have h1:=HPT.out b (by rw [e];rfl);omega);have HX8:=Zh hD;have HE8:=Zh (HE7.only hO (by have h1:=HL7.out;omega));clear hD hO hlD HM7 HI7 HP7 HX7 HE7;refine nm ?_;refine J3 (cs:=#[.int .i64 a.seg,.int .i64 (a.off+(k:Int)),.int .u32 ((a.seq+q)%M32),.slice fa m fc]) HE8.out rfl JG (Kg _ _ _ _ _ _) rfl rfl rfl ?_;intro w9 hD hO hlD;have HM9:=Zh (HM8.other hO (by have h1:=HT5.out;have h2:=HL7.out;omega));have HI9:=Zh (HI8.only HE8.out (xu 0 0 0 none 0 0) hO);have HP9:=Zh (HP8.only hO fun b o n c e=>by have h1:=HPT.out b (by rw [e];rfl);have h2:=HL7.out;omega);have HX9:=Zh (HX8.only hO (by have h1:=HL7.out;omega));have HE9:=Zh hD;have HLX:Hid (rB<tB∧tB<w5.heap.size∧w5.heap.size<w6.heap.size∧w.heap.size<rB∧tB<w4.heap.size∧w4.heap.size≤w5.heap.size):=Zh ⟨HM8.lt.2.2.2.1,by have h1:=HT5.out;omega,HL7.out.1,by have h1:=HM8.lt;omega,HT5.out.1,HT5.out.2⟩;have HFO:Hid (∀b' o n c,Value.slice fa m fc=.slice (some ⟨b',o,none⟩) n c→b'<w.heap.size):=HFB;clear hD hO hlD HM8 HI8 HP8 HX8 HE8 HT5 HL7 HPT;generalize w4.heap.size=cB at *;generalize w5.heap.size=xB at *;generalize w6.heap.size=eB at *;refine nm ?_;refine tk (.nilIface) ?_;refine Zn ?_;have q3:=HM9.ab.cell (i:=3) rfl
   go_wp2_with fail
   refine (YD 17 false rfl _).mono ?_;rintro e w10 ⟨rfl,hb⟩;have HM:=Zh (HM9.below hb);have HI:=Zh (HI9.below hb);have HP:=Zh (HP9.below hb);have HXB:=Zh (HX9.below hb HX9.lt);have HEB:=Zh (HE9.below hb HE9.lt);have HF:=Zh (HF0.below HM.bel);clear hb HM9 HI9 HP9 HX9 HE9 q3;have q3:=HM.ab.cell (i:=3) rfl;go_upto_region 3 with fail;refine J9 (fun wq=>Only (fun j=>j=rB∨j=tB) w10 wq) (by kernel_rfl) ?_;have HSd:Hid (Only (fun j=>j=rB∨j=tB) w10 w10.drew):=Zh (Only.refl _ _).drew;have HXW:Hid (∀wq,Only (fun j=>j=rB∨j=tB) w10 wq→Blk wq xB [.slice ia n1 c1,.slice aa n2 c2]):=Zh fun wq hS=>HXB.only hS (by have h1:=HLX.out;omega);have HEW:Hid (∀wq,Only (fun j=>j=rB∨j=tB) w10 wq→Blk wq eB [.int .i64 a.seg,.int .i64 (a.off+(k:Int)),.int .u32 ((a.seq+q)%M32),.slice fa m fc]):=Zh fun wq hS=>HEB.only hS (by have h1:=HLX.out;omega);have HMd:=Zh (HM.below Zq.drew);have HId:=Zh (HI.below Zq.drew);have HPd:=Zh (HP.below Zq.drew);have HFd:=Zh (HF.below Zq.drew);generalize w10.drew=wS at *;refine th 0 29 (.agg #[.slice ia n1 c1,.slice aa n2 c2]) HSd.out ?_ (hy:=fun wq hS=>by have q:=HXW.out wq hS;have q0:=q.cell (i:=0) rfl;have q1:=q.cell (i:=1) rfl;go_simp);refine th 1 30 (.agg #[.int .i64 a.seg,.int .i64 (a.off+(k:Int)),.int .u32 ((a.seq+q)%M32),.slice fa m fc]) HSd.out ?_ (hy:=fun wq hS=>by have q:=HEW.out wq hS;have q0:=q.cell (i:=0) rfl;have q1:=q.cell (i:=1) rfl;have q2:=q.cell (i:=2) rfl;have q3:=q.cell (i:=3) rfl;go_simp);refine th 2 31 (.nilIface) HSd.out ?_;refine Zo 3 fun K hK=>?_;refine Jw 214 _ _ rfl rB #[.slice ia n1 c1,.slice aa n2 c2] rfl rfl _ HMd.rb rfl KJ (XM _ _ _ _ _ _) ?_;intro u10 hD hO;have HS10:Hid (Only (fun j=>j=rB∨j=tB) w10 u10):=Zh (HSd.trans (hO.more fun j _ hj=>.inl hj));have HM10:=Zh (HMd.setR hO hD);have HI10:=Zh (HId.only HMd.rb (J4i _ _ _ _ _ _) hO);have HP10:=Zh (HPd.only hO fun b o n c e=>by have h1:=HPB.out b (by rw [e];rfl);have h2:=HLX.out;omega);have HF10:=Zh (HFd.only hO fun b o n c e=>by have h1:=HFO.out b o n c e;have h2:=HLX.out;omega);refine hK _ _ HS10.out ?_;clear hK K hD hO;refine nm ?_;refine Zo 4 fun K hK=>?_;refine Jw 58 _ _ rfl tB #[.int .i64 a.seg,.int .i64 (a.off+(k:Int)),.int .u32 ((a.seq+q)%M32),.slice fa m fc] rfl rfl _ HM10.tb rfl JG (Kg _ _ _ _ _ _) ?_;intro u11 hD hO;have HS11:Hid (Only (fun j=>j=rB∨j=tB) w10 u11):=Zh (HS10.trans (hO.more fun j _ hj=>.inr hj));have HM11:=Zh (HM10.setT hO hD);have HI11:=Zh (HI10.only HM10.tb (xu _ _ _ _ _ _) hO);have HP11:=Zh (HP10.only hO fun b o n c e=>by have h1:=HPB.out b (by rw [e];rfl);have h2:=HLX.out;omega);have HF11:=Zh (HF10.only hO fun b o n c e=>by have h1:=HFO.out b o n c e;have h2:=HLX.out;omega);refine hK _ _ HS11.out ?_;clear hK K hD hO;refine nm ?_;refine th 5 8 (.nilIface) HS11.out ?_;refine Zd ?_
   go_wp2_with fail
   refine bodyPost_ret (v:=.tuple #[.agg #[.slice ia n1 c1,.slice aa n2 c2],.agg #[.int .i64 a.seg,.int .i64 (a.off+(k:Int)),.int .u32 ((a.seq+q)%M32),.slice fa m fc],.nilIface]) (Qr rfl _ _ rB tB #[.slice ia n1 c1,.slice aa n2 c2] #[.int .i64 a.seg,.int .i64 (a.off+(k:Int)),.int .u32 ((a.seq+q)%M32),.slice fa m fc] _ _ (.nilIface) rfl rfl rfl Tryz.underlying214 Tryz.underlying58 rfl rfl KJ JG (HM11.rb.all rfl) (HM11.tb.all rfl)) rfl ⟨.inr ⟨l,a,ia,n1,c1,aa,n2,c2,pl,fa,m,fc,HNX.out,by rw [HKK.out,HQQ.out],HPL.out,HI11.out,HP11.out,HF11.out,HCP.out,fun b o e=>⟨o,m,fc,by rw [e]⟩,fun j hj=>by have h1:=HPB.out j hj;have h2:=HLX.out;omega,HFF.out.1,HFF.out.2⟩,HGB.out ▸ HM11.bel⟩
end
variable {B b c i n:Nat} {F:Nat→Prop} {K:Act→World→Prop} {Q:Exit→Act→World→Prop} {X:List (List Int)} {a:Act} {l:List Int} {o:Oper} {sv:Value} {w w':World}
abbrev gcs(l:List (Value×Value)):List Value:=l.flatMap fun p=>[p.1,p.2]
theorem Jhp(l:List (Value×Value)){p:Value×Value}(h:l[i]? = some p):(gcs l)[i*2]? = some p.1∧(gcs l)[i*2+1]? = some p.2:=by
 induction l generalizing i with
 | nil=>simp at h
 | cons q l ih =>
  cases i with
  | zero =>
   simp only [List.getElem?_cons_zero,Option.some.injEq] at h;subst h;exact⟨rfl,rfl⟩
  | succ i =>
   simp only [List.getElem?_cons_succ] at h;have:=ih h;have e1:(i+1)*2=i*2+2:=by omega
   rw [e1];simp only [gcs,List.flatMap_cons] at this ⊢;exact this
def OwnG(w:World)(B:Nat)(sv:Value)(l:List (Value×Value)):Prop:=w.ownsRow B 214 2 sv l.length (gcs l)
theorem OwnG.nil(w:World)(B:Nat):OwnG w B (.slice none 0 0) []:=World.ownsRow_nil w B 214 2
theorem OwnG.lt{l:List (Value×Value)}(h:OwnG w B sv l):∀k,sv.ownBlock=some k→B≤k∧k<w.heap.size:=World.ownsRow.lt h
theorem OwnG.below{l:List (Value×Value)}(h:OwnG w B sv l)(hb:Below w.heap.size w w'):OwnG w' B sv l:=by
 refine⟨h.1,?_⟩;rcases h.2 with hn|⟨g,cap,cur,e,hB,hg,r⟩
 · exact .inl hn
 · exact .inr ⟨g,cap,cur,e,hB,(hb.block g (Array.getElem?_eq_some_iff.1 hg).1).trans hg,r⟩
theorem OwnG.only{l:List (Value×Value)}(h:OwnG w B sv l)(ho:Only F w w')(hF:∀k,B≤k→k<w.heap.size→¬F k):OwnG w' B sv l:=by
 refine⟨h.1,?_⟩;rcases h.2 with hn|⟨g,cap,cur,e,hB,hg,r⟩
 · exact .inl hn
 · have hl:=(Array.getElem?_eq_some_iff.1 hg).1;exact .inr ⟨g,cap,cur,e,hB,(ho.block g hl (hF g hB hl)).trans hg,r⟩
theorem OwnG.len{l:List (Value×Value)}(h:OwnG w B sv l):∃a c,sv=.slice a l.length c∧l.length≤c:=by
 rcases h.2 with ⟨e,h0⟩|⟨g,cap,cur,e,_,_,hn,_⟩
 · exact⟨none,0,by rw [e,h0],by omega⟩
 · exact⟨_,cap,e,hn⟩
theorem OwnG.at{l:List (Value×Value)}(h:OwnG w B sv l){p:Value×Value}(hi:l[i]? = some p):∃g cap,sv=.slice (some ⟨g,0,none⟩) l.length cap∧l.length≤cap∧w.cell? ⟨g,i*2,none⟩=some p.1∧w.cell? ⟨g,i*2+1,none⟩=some p.2:=by
 have hil:=(Zg hi).1;rcases id h.2 with ⟨e,h0⟩|⟨g,cap,cur,rfl,hb,hg,hn,hm,hs,ht⟩
 · omega
 · obtain⟨h1,h2⟩:=Jhp l hi;exact⟨g,cap,rfl,hn,by rw [World.ownsRow.cellAt h (i*2) (by omega),h1],by rw [World.ownsRow.cellAt h (i*2+1) (by omega),h2]⟩
theorem Jaq:(Tryz.prog.info? 214).map (fun i=>(i.size,i.bytes))=some (2,48):=by kernel_rfl
theorem Jar:∃i,Tryz.prog.info? 214=some i∧i.zero=some (.agg #[.slice none 0 0,.slice none 0 0])∧i.size=2∧i.bytes=48:=by
 have h1:=Jaq;have h2:=XC;cases hq:Tryz.prog.info? 214 with
 | none=>simp [hq] at h1
 | some i =>
  simp [hq] at h1 h2;exact⟨i,rfl,h2,h1⟩
theorem Jas{l:List (Value×Value)}(h:OwnG w B sv l)(hB:B≤w.heap.size)(g0:Nat)(p:Value×Value)(c0:w.cell? ⟨g0,0,none⟩=some p.1)(c1:w.cell? ⟨g0,1,none⟩=some p.2)(h1:p.1.oneCell'=true∧p.2.oneCell'=true)(hlen:l.length+1≤100000)(ty:TypeId) :
 ∃sv' w',(Builtin.append_ #[210,210] ty #[sv,.slice (some ⟨g0,0,none⟩) 1 1]).run Tryz.prog w=.ok sv' w'∧OwnG w' B sv' (l++[p])∧w.grownBy w' sv.ownBlock∧(sv'.ownBlock=sv.ownBlock∨sv'.ownBlock=some w.heap.size):=by
 obtain⟨i,hi,hz,hs,hby⟩:=Jar;obtain⟨v',w',hr,h2,h3,_,h5⟩:=run_append_own_at (P:=Tryz.prog) w B 210 ty 214 i (.agg #[.slice none 0 0,.slice none 0 0]) 2 48 Tryz.underlying210 hi hz hs hby rfl (by decide) sv l.length (gcs l) h ⟨g0,0,none⟩ 1 1 [p.1,p.2] rfl (fun j u hu=>by
  rw [show (⟨g0,0,none⟩:Addr).add j=⟨g0,j,none⟩ by unfold Addr.add;split <;> simp_all]
  match j,hu with
  | 0,hu=>simp at hu;subst hu;exact c0
  | 1,hu=>simp at hu;subst hu;exact c1
  | j+2,hu=>simp at hu) (fun u hu=>by
   simp only [List.mem_cons,List.not_mem_nil,or_false] at hu
   rcases hu with rfl|rfl
   · exact h1.1
   · exact h1.2) (by simp only [maxLen];omega) (by omega) hB
 refine⟨v',w',hr,?_,h3,h5⟩;unfold OwnG;rw [List.length_append,show gcs (l++[p])=gcs l++[p.1,p.2] by simp [gcs]];exact h2
theorem Jat(w:World)(x y:Value)(hx:x.oneCell'=true)(hy:y.oneCell'=true):(Instr.buildSlice 210 1 #[(0,Value.agg #[x,y])]).run Tryz.prog w=.ok (.slice (some ⟨w.heap.size,0,none⟩) 1 1) (w.alloc (.cells #[x,y] 214)):=by
 obtain⟨i,hi,hz,hs,-⟩:=Jar;refine Go.run_buildSlice (P:=Tryz.prog) w 210 214 1 _ #[x,y] i _ Tryz.underlying210 hi hz (by rw [hs];omega) (by rw [hs];omega) ?_;rw [hs];have hv:∀v∈[Value.agg #[x,y]],v.cells.size=2:=fun v hv=>by
  obtain rfl:=List.mem_singleton.1 hv;rfl
 obtain⟨r,hr,hrs,hk⟩:=Go.Great.fill_dense (s:=2) (by decide) [Value.agg #[x,y]] 0 ((Array.range (1*2)).map fun k=>(Value.agg #[.slice none 0 0,.slice none 0 0]).cells[k%(Value.agg #[.slice none 0 0,.slice none 0 0]).cells.size]!) hv (by simp);have hcells:r=#[x,y]:=by
  apply Array.ext_getElem?;intro k;rw [hk k]
  match k with
  | 0=>simp [Value.cells]
  | 1=>simp [Value.cells]
  | k+2=>simp
 rw [hcells] at hr;exact hr
def Cl(B:Nat)(r:Option Nat)(v:Value):Prop:=∀b o n c,v=.slice (some ⟨b,o,none⟩) n c→B≤b∧some b≠r
theorem ItemsAt.keepF{l:List (It×Value)}(h:ItemsAt w sv l)(ho:Only F w w')(hn:∀b o n c,sv=.slice (some ⟨b,o,none⟩) n c→b<w.heap.size→¬F b)(hx:∀x∈l,0<x.1.blk.bytes.length→∀b o n c,x.2=.slice (some ⟨b,o,none⟩) n c→b<w.heap.size→¬F b):ItemsAt w' sv l:=by
 obtain⟨a,cap,e,hcap,hc⟩:=h;refine⟨a,cap,e,hcap,fun i x hi=>?_⟩;obtain⟨h1,h2,g,o,h3,h4⟩:=hc i x hi;refine⟨h1,?_,g,o,h3,fun j hj=>?_⟩
 · obtain⟨a2,c2,e2,hc2⟩:=h2;refine⟨a2,c2,e2,fun k z hz=>?_⟩;obtain⟨b,o2,e3,hz2⟩:=hc2 k z hz;refine⟨b,o2,e3,?_⟩;have hl:0<x.1.blk.bytes.length:=by have:=(Zg hz).1;omega
   rw [←hz2];simp only [World.cell?,ho.block b (block_lt_of_cell hz2) (hx x (List.mem_of_getElem? hi) hl b o2 _ _ (by rw [e2,e3]) (block_lt_of_cell hz2))]
 · rw [←h4 j hj];simp only [World.cell?,ho.block g (block_lt_of_cell (h4 j hj)) (hn g o _ _ (by rw [e,h3]) (block_lt_of_cell (h4 j hj)))]
theorem ItemsAt.lt{l:List (It×Value)}(h:ItemsAt w sv l)(hl:0<l.length){o:Nat}(e:sv=.slice (some ⟨b,o,none⟩) n c):b<w.heap.size:=by
 obtain⟨a,cap,e2,hcap,hc⟩:=h;obtain⟨h1,h2,g,o2,h3,h4⟩:=hc 0 _ (List.getElem?_eq_getElem hl);rw [h3,e] at e2;cases e2;exact h4.lt (by rw [It.arr_size h1];decide)
def Apt(B:Nat)(r:Option Nat)(w:World)(p:Value×Value)(x:List It×List Int):Prop:=∃pl,ItemsAt w p.1 pl∧pl.map (·.1)=x.1∧IntsAt w p.2 x.2∧0<pl.length∧0<x.2.length∧Cl B r p.1∧Cl B r p.2∧∀y∈pl,0<y.1.blk.bytes.length→Cl B r y.2
theorem Apt.only{r:Option Nat}{p:Value×Value}{x:List It×List Int}(h:Apt B r w p x)(ho:Only F w w')(hF:∀b,B≤b→b<w.heap.size→some b≠r→¬F b):Apt B r w' p x:=by
 obtain⟨pl,h1,h2,h3,h4,h5,h6,h7,h8⟩:=h;refine⟨pl,h1.keepF ho (fun b o n c e hb=>hF b (h6 b o n c e).1 hb (h6 b o n c e).2) (fun y hy hl b o n c e hb=>hF b (h8 y hy hl b o n c e).1 hb (h8 y hy hl b o n c e).2),h2,?_,h4,h5,h6,h7,h8⟩;exact h3.onlyF ho fun b o n c e=>hF b (h7 b o n c e).1 (h3.lt h5 e) (h7 b o n c e).2
theorem Apt.below{r:Option Nat}{p:Value×Value}{x:List It×List Int}(h:Apt B r w p x)(hb:Below w.heap.size w w'):Apt B r w' p x:=h.only (Only.of_belowB hb) fun b _ hl _=>by omega
theorem Apt.grown{r r':Option Nat}{p:Value×Value}{x:List It×List Int}(h:Apt B r w p x)(hg:w.grownBy w' r)(hr:r'=r∨r'=some w.heap.size):Apt B r' w' p x:=by
 have ho:Only (fun k=>some k=r) w w':=(Only.refl _ w).grown hg fun k hk=>.inl hk.symm;obtain⟨pl,h1,h2,h3,h4,h5,h6,h7,h8⟩:=h;have key:∀b,b<w.heap.size→some b≠r→some b≠r':=fun b hb hne=>by
  rcases hr with rfl|rfl
  · exact hne
  · intro e;have:=Option.some.inj e;omega
 refine⟨pl,h1.keepF ho (fun b o n c e _=>(h6 b o n c e).2) (fun y hy hl b o n c e _=>(h8 y hy hl b o n c e).2),h2,h3.onlyF ho (fun b o n c e=>(h7 b o n c e).2),h4,h5,fun b o n c e=>⟨(h6 b o n c e).1,key b (h1.lt h4 e) (h6 b o n c e).2⟩,fun b o n c e=>⟨(h7 b o n c e).1,key b (h3.lt h5 e) (h7 b o n c e).2⟩,fun y hy hl b o n c e=>⟨(h8 y hy hl b o n c e).1,key b ((h1.bytes y hy).2.lt hl e) (h8 y hy hl b o n c e).2⟩⟩
structure Gs (B:Nat) (w:World) (sv:Value) (P:List (List It×List Int)) (l:List (Value×Value)):Prop where
 own:OwnG w B sv l
 len:l.length=P.length
 dat:∀(i:Nat) (p:Value×Value) (x:List It×List Int),l[i]? = some p→P[i]? = some x→Apt B sv.ownBlock w p x
theorem Gs.nil(w:World)(B:Nat):Gs B w (.slice none 0 0) [] []:=⟨OwnG.nil w B,rfl,fun i p x h=>by simp at h⟩
theorem Gs.below{P:List (List It×List Int)}{l:List (Value×Value)}(h:Gs B w sv P l)(hb:Below w.heap.size w w'):Gs B w' sv P l:=⟨h.own.below hb,h.len,fun i p x h1 h2=>(h.dat i p x h1 h2).below hb⟩
theorem Gs.only{P:List (List It×List Int)}{l:List (Value×Value)}(h:Gs B w sv P l)(ho:Only F w w')(hF:∀b,B≤b→b<w.heap.size→¬F b):Gs B w' sv P l:=⟨h.own.only ho hF,h.len,fun i p x h1 h2=>(h.dat i p x h1 h2).only ho fun b hb hl _=>hF b hb hl⟩
theorem Jhq{P:List (List It×List Int)}{l:List (Value×Value)}(x y:Operand)(dst:Option Tmp)(hd:o.dst=dst)(ho:o.op=.call { callee:=.builtin .append,args:=#[x,y],argTypes:=#[210,210] })(h:Gs B w sv P l)(hB:B≤w.heap.size)(g0:Nat)(p:Value×Value)(q:List It×List Int)(c0:w.cell? ⟨g0,0,none⟩=some p.1)(c1:w.cell? ⟨g0,1,none⟩=some p.2)(h1:p.1.oneCell'=true∧p.2.oneCell'=true)(hlen:P.length+1≤100000)(hap:Apt B sv.ownBlock w p q)(hx:a.eval x=sv)(hy:a.eval y=.slice (some ⟨g0,0,none⟩) 1 1)(hh:∀sv' w',Gs B w' sv' (P++[q]) (l++[p])→Below B w w'→w.grownBy w' sv.ownBlock→K (a.put dst sv') w'):o.wp Tryz.prog a w K Q:=by
 obtain⟨sv',w',hr,hO,hg,h5⟩:=Jas h.own hB g0 p c0 c1 h1 (by rw [h.len];exact hlen) o.type;refine Jf dst hd sv' w' (Qd a.eval o x y 210 210 ho sv _ sv' hx hy hr) (hh sv' w' ⟨hO,by rw [List.length_append,List.length_append,h.len];rfl,fun i p' x' hp' hx'=>?_⟩ (Kq hg hB fun k hk=>(h.own.lt k hk).1) hg)
 by_cases hi:i<l.length
 · rw [List.getElem?_append_left hi] at hp';rw [List.getElem?_append_left (by rw [←h.len];exact hi)] at hx';exact (h.dat i p' x' hp' hx').grown hg h5
 · have hil:=(Zg hp').1;rw [List.length_append] at hil;simp only [List.length_cons,List.length_nil] at hil;have e:i=l.length:=by omega
   subst e;rw [List.getElem?_append_right Zy,Nat.sub_self] at hp';rw [h.len,List.getElem?_append_right Zy,Nat.sub_self] at hx';simp at hp' hx';subst hp';subst hx';exact hap.grown hg h5
def GsAt(w:World)(sv:Value)(P:List (List It×List Int)):Prop:=∃B l,Gs B w sv P l
theorem GsAt.form{P:List (List It×List Int)}(h:GsAt w sv P):∃a c,sv=.slice a P.length c:=by
 obtain⟨B,l,h⟩:=h;obtain⟨a,c,e,-⟩:=h.own.len;exact⟨a,c,by rw [e,h.len]⟩
def mm(g:Pl.Gm)(b:Ja):Nat:=(g.l-b.off).toNat+b.free.length*g.l.toNat
theorem xw{g:Pl.Gm}{b:Ja}{l:List It}(h:gAt X g b=some l):JH l=true∧(Jd b.seq l).1.length≤(g.l-b.off).toNat:=by
 obtain⟨h1,h2,-⟩:=QL h;have:=h2.length_le;rw [List.length_take] at this;exact⟨h1,by omega⟩
theorem Jhr{g:Pl.Gm}{b b1:Ja}{l:List It}(hg:b.good g=true)(h:nxt X g b=some (l,b1)):JH l=true∧Nx g b b1 (Jd b.seq l).1.length∧ZX b b1:=by
 obtain⟨h1,h2,h3,h4,h5⟩:=Ja.good_parts hg;unfold nxt at h;cases e:gAt X g b with
 | some l' =>
  rw [e] at h;simp only [Option.some.injEq,Prod.mk.injEq] at h;obtain⟨rfl,rfl⟩:=h;obtain⟨k1,k2⟩:=xw e;exact⟨k1,⟨rfl,h2,⟨h3,by omega⟩,h5,h1⟩,.inl rfl⟩
 | none =>
  rw [e] at h;simp only at h;cases hf:b.free with
  | nil =>
   rw [hf] at h;cases h
  | cons f r =>
   rw [hf] at h;simp only at h;obtain⟨l',e2,e3⟩:=Option.map_eq_some_iff.1 h;simp only [Prod.mk.injEq] at e3;obtain⟨rfl,rfl⟩:=e3;obtain⟨k1,k2⟩:=xw e2;obtain⟨-,j2,j3,j4,j5⟩:=Ja.good_parts (YR hg hf);simp only at j2 j3 j4 j5 k2;exact⟨k1,⟨rfl,j2,⟨Int.le_refl _,by show (0:Int)+_≤_;omega⟩,j5,h1⟩,.inr ⟨f,r,hf,rfl⟩⟩
theorem Jec{g:Pl.Gm}{b b1:Ja}{l:List It}(hg:b.good g=true)(hm:JH l=true)(hnx:Nx g b b1 (Jd b.seq l).1.length)(hs:ZX b b1):mm g (aft b b1 l)<mm g b:=by
 have hp:=Ja8 hm b.seq;obtain⟨h1,h2,h3,h4,h5⟩:=Ja.good_parts hg;have hoff:=hnx.off;unfold mm aft;rcases hs with rfl|⟨f,r,hf,rfl⟩
 · simp only;omega
 · rw [hf];simp only [List.length_cons] at hoff ⊢;rw [Nat.add_mul];omega
theorem Jhs{g:Pl.Gm}{b:Ja}(hg:b.good g=true):mm g b≤1000:=by
 obtain⟨h1,h2,h3,h4,h5⟩:=Ja.good_parts hg;have hf:=Ja.few hg;have hl:=h1.2.2.1.2;unfold mm;have:b.free.length*g.l.toNat≤16*g.l.toNat:=Nat.mul_le_mul_right _ hf;omega
theorem IntsAt.low(h:IntsAt w sv l)(hb:Below B w w')(hB:∀b o n c,sv=.slice (some ⟨b,o,none⟩) n c→b<B):IntsAt w' sv l:=h.onlyF (Only.of_belowB hb) fun b o n c e=>by have:=hB b o n c e;omega
theorem Jau:(Tryz.prog.info? 23).bind (·.zero)=some (.agg #[.int .i64 0,.int .i64 0,.int .i64 0,.int .i64 0]):=by kernel_rfl
theorem info23:(Tryz.prog.info? 23).map (·.size)=some 4:=by kernel_rfl
theorem yl{α β:Type}{f:α→β}(hf:∀a b,f a=f b→a=b):∀(l m:List α),l.map f=m.map f→l=m
 | [],[],_=>rfl
 | [],_::_,h=>by simp at h
 | _::_,[],h=>by simp at h
 | a::l,b::m,h=>by
  simp only [List.map_cons,List.cons.injEq] at h;rw [hf a b h.1,yl hf l m h.2]
theorem Jed{x y:List Int}(h:(u8s x).toArray=(u8s y).toArray):x=y:=by
 have h2:u8s x=u8s y:=by simpa using congrArg Array.toList h
 exact yl (fun a b e=>by injection e) _ _ h2
theorem Img.inj{d:De.D}{X Y:List (List Int)}(h:Img d X)(k:Img d Y):X=Y:=by
 have e:X.map (fun y=>(u8s y).toArray)=Y.map fun y=>(u8s y).toArray:=h.v.symm.trans k.v;exact yl (fun a b e=>Jed e) _ _ e
end Go.Proofs.YtdbfmikeaoaebaaGreatDoor
