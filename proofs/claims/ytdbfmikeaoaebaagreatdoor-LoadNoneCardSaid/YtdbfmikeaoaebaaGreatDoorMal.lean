/- Steps. -/
import Derived.Test.YtdbfmikeaoaebaaGreatDoorMak
set_option linter.unusedSimpArgs false
set_option linter.unusedVariables false
set_option maxRecDepth 100000
set_option maxHeartbeats 4000000
namespace Go.Proofs.YtdbfmikeaoaebaaGreatDoor
open Go.RowKit
theorem J2n{W:World}(b:Nat)(F:Nat→Prop)(d:De.D)(hm:d.S.length≤1000000)(g:Pl.Gm)(a:Ja)(fv:Value)(hbig:a.free.length≤9223372036854775807)(hf:fits g a d.S.length=true)(hq:Kj a.seq)(w:World)(h:IntsAt w fv a.free)(hdv:De.Dv W w b F d) :
 Calls Tryz.prog 20 #[.pointer (some ⟨b,0,none⟩),g.v,.agg #[.int .i64 a.seg,.int .i64 a.off,.int .u32 a.seq,fv]] w fun e w'=>∃jb tv,e=.returned (.tuple #[.pointer (some ⟨jb,0,none⟩),.int .i64 0])∧Jn W w' jb b F d g a tv∧w.heap.size≤jb∧Below w.heap.size w w':=by
 obtain⟨fa,fc,hfv⟩:=h.form;obtain⟨n,hnn⟩:∃n,a.free.length=n:=⟨_,rfl⟩
 rw [hnn] at hfv;subst hfv;have hgood:a.good g=true∧4+g.s*g.l≤(d.S.length:Int):=by
  unfold fits at hf;simp only [Bool.and_eq_true,decide_eq_true_eq] at hf;exact hf
 have HGO:=Zh hgood;have hfew:=Ja.few hgood.1;have HPR:=Zh fun w h hL=>problem_any (some ⟨b,0,none⟩) d.S.length hm g a (.slice fa n fc) hbig w h hL;have HCO:=Zh fun w h=>kx a (.slice fa n fc) (by omega) w h;have HFR:=Zh h;have HDV:=Zh hdv;have HFS:=Zh hf;have HQ:=Zh hq;have HN:=Zh hnn;have HBT:=Zh (fun (x y z:Int) (q:Option Addr) k c=>J8a (some ⟨b,0,none⟩) g.p g.s g.l g.f x y z q k c);have HJ:Hid (∀(jb:Nat) (tv:Value) (w':World),Blk w' jb [.pointer (some ⟨b,0,none⟩),.int .i64 g.p,.int .i64 g.s,.int .i64 g.l,.int .i64 g.f,.int .i64 a.seg,.int .i64 a.off,.int .u32 a.seq,tv]→w.heap.size≤jb→OwnN w' w.heap.size tv a.free→tv.ownBlock≠some jb→Below w.heap.size w w'→Jn W w' jb b F d g a tv):=Zh (fun jb tv w' h1 h2 h3 h4 h5 =>
  ⟨HDV.below h5,h1,h3.ints,Nat.le_trans HDV.out.2.size h2,fun hF=>by have:=(HDV.lt jb hF).2; omega,fun b' o n c e=>by
   have h6:=h3.lt b' (by rw [e]; rfl)
   have h7:=HDV.out.2.size
   refine⟨by omega,fun e2=>h4 (by rw [e,←e2]; rfl),fun hF=>by have:=(HDV.lt b' hF).2; omega,h6.2⟩,HGO.out.1,HQ.out,HGO.out.2,h3.cp⟩)
 obtain⟨seg,off,seq,l⟩:=a;obtain⟨p,s,sl,f⟩:=g;simp only at HPR HFR HFS HCO HBT HJ HN ⊢;have HG1:=Zh fun wr hb=>jQ w #[.int .i64 p,.int .i64 s,.int .i64 sl,.int .i64 f] #[.int .i64 seg,.int .i64 off,.int .u32 seq,.slice fa n fc] 23 58 wr hb;have HS2:=Zh (ZC w #[.int .i64 p,.int .i64 s,.int .i64 sl,.int .i64 f] #[.int .i64 seg,.int .i64 off,.int .u32 seq,.slice fa n fc] 23 58);have HB2:Hid (Below w.heap.size w ((w.alloc (.cells #[.int .i64 p,.int .i64 s,.int .i64 sl,.int .i64 f] 23)).alloc (.cells #[.int .i64 seg,.int .i64 off,.int .u32 seq,.slice fa n fc] 58))):=Zh (((Below.refl w.heap.size w).alloc (Nat.le_refl _) _).alloc (by simp) _);clear hnn h hdv hf hbig hq hgood hfew;go_enter Tryz.func20,Tryz.ntmps20
 go_wp2_with fail
 refine (HPR.out _ (HFR.below HB2.out) (fun w' hb=>De.ZY (HDV.below (Jk HB2.out hb)))).mono ?_;generalize (w.alloc (.cells #[.int .i64 p,.int .i64 s,.int .i64 sl,.int .i64 f] 23)).alloc (.cells #[.int .i64 seg,.int .i64 off,.int .u32 seq,.slice fa n fc] 58)=w2 at *;rintro e w3 ⟨v,rfl,hb,hor⟩;have HB3:=Zh (Jk HB2.out hb);rcases hor with ⟨-,rfl⟩ | ⟨h1,-⟩
 rotate_left
 · rw [HFS.out] at h1;cases h1
 obtain⟨hB,hg0,ha0⟩:=HG1.out w3 (hb.mono (by rw [HS2.out]; exact Nat.le_refl _));have HVG:=Zh hg0;have HVA:=Zh ha0;clear hb hB hg0 ha0 HPR HG1;go_upto_region 4 with fail
 go_cut [6,7] from 17 to 22 (fun s6 s7 wx=>∃jb tv,s6=.pointer (some ⟨jb,0,none⟩)∧s7=.int .i64 0∧Jn W wx jb b F d ⟨p,s,sl,f⟩ ⟨seg,off,seq,l⟩ tv∧w.heap.size≤jb∧Below w.heap.size w wx)
 case first =>
  refine J8 (fun wq=>Below w3.heap.size w3 wq) (by kernel_rfl) ?_;have HSd:Hid (Below w3.heap.size w3 w3.drew):=Zh (Below.refl _ _).drew;refine th 0 17 (.pointer (some ⟨b,0,none⟩)) HSd.out ?_;refine th 1 18 (.agg #[.int .i64 p,.int .i64 s,.int .i64 sl,.int .i64 f]) HSd.out ?_ (hy:=fun wq hS=>by have q:=HVG.below hS HVG.lt; have q0:=q.cell (i:=0) rfl; have q1:=q.cell (i:=1) rfl; have q2:=q.cell (i:=2) rfl; have q3:=q.cell (i:=3) rfl; go_simp);refine th 2 19 (.agg #[.int .i64 seg,.int .i64 off,.int .u32 seq,.slice fa n fc]) HSd.out ?_ (hy:=fun wq hS=>by have q:=HVA.below hS HVA.lt; have q0:=q.cell (i:=0) rfl; have q1:=q.cell (i:=1) rfl; have q2:=q.cell (i:=2) rfl; have q3:=q.cell (i:=3) rfl; go_simp);refine Zo 3 fun K hK=>?_;go_simp;refine (HCO.out _ (HFR.below (Jk HB3.out HSd.out))).mono ?_;rintro e w4 ⟨tv,rfl,ho,hb⟩;have HO:=Zh ho;have HS4:=Zh (Jk HSd.out hb);obtain⟨ta,tc,htv⟩:=ho.ints.form;rw [HN.out] at htv;subst htv;have HSZ:Hid (w.heap.size≤w3.drew.heap.size):=Zh (Jk HB3.out HSd.out).size;refine hK _ _ HS4.out ?_;clear hK K hb ho;refine nm ?_;refine th 4 21 (.agg #[.pointer (some ⟨b,0,none⟩),.int .i64 p,.int .i64 s,.int .i64 sl,.int .i64 f,.int .i64 seg,.int .i64 off,.int .u32 seq,.slice ta n tc]) HS4.out ?_ (hy:=fun wq hS=>by exact Jc _ _ _ _ 145 _ rfl #[(0,.pointer (some ⟨b,0,none⟩)),(1,.agg #[.int .i64 p,.int .i64 s,.int .i64 sl,.int .i64 f]),(2,.agg #[.int .i64 seg,.int .i64 off,.int .u32 seq,.slice ta n tc])] (by simp only [List.map_toArray,List.map_cons,List.map_nil]; rfl) _ (run_build _ 145 _ _ (HBT.out _ _ _ _ _ _)));refine Zo 5 fun K hK=>?_;refine Jg (some 22) rfl (.pointer (some ⟨w4.heap.size,0,none⟩)) (w4.alloc (.cells #[.pointer (some ⟨b,0,none⟩),.int .i64 p,.int .i64 s,.int .i64 sl,.int .i64 f,.int .i64 seg,.int .i64 off,.int .u32 seq,.slice ta n tc] 145)) (by go_simp) ?_;have hbl:Below w4.heap.size w4 (w4.alloc (.cells #[.pointer (some ⟨b,0,none⟩),.int .i64 p,.int .i64 s,.int .i64 sl,.int .i64 f,.int .i64 seg,.int .i64 off,.int .u32 seq,.slice ta n tc] 145)):=(Below.refl _ _).alloc (Nat.le_refl _) _;have HS5:=Zh (Jk HS4.out hbl);have HBL:=Zh hbl;have HNB:=Zh (Blk.new w4 #[.pointer (some ⟨b,0,none⟩),.int .i64 p,.int .i64 s,.int .i64 sl,.int .i64 f,.int .i64 seg,.int .i64 off,.int .u32 seq,.slice ta n tc] 145);refine hK _ _ HS5.out ?_;clear hK K hbl;refine nm ?_;refine th 6 6 (.pointer (some ⟨w4.heap.size,0,none⟩)) HS5.out ?_;refine th 7 7 (.int .i64 0) HS5.out ?_;refine Zd ?_
  go_wp2_with fail
  go_meet
  have hle:w.heap.size≤w4.heap.size:=(Jk HB3.out HS4.out).size;exact⟨_,_,rfl,rfl,HJ.out _ _ _ HNB.out hle ((HO.below HBL.out).mono HSZ.out) (fun e=>by have:=(HO.lt _ e).2; omega) (Jk HB3.out HS5.out),hle,Jk HB3.out HS5.out⟩
 case rest =>
  obtain⟨jb,tv,rfl,rfl,hj,hle,hb⟩:=hcut;have HJ5:=Zh hj;have HB5:=Zh hb;have HLE:=Zh hle;clear hj hb hle
  go_wp2_with fail
  first | go_ret2 | go_ret
  exact⟨jb,tv,rfl,HJ5.out,HLE.out,HB5.out⟩
theorem KW:(Tryz.prog.info? 58).bind (·.zero)=some (.agg #[.int .i64 0,.int .i64 0,.int .u32 0,.slice none 0 0]):=by kernel_rfl
theorem yO:Tryz.prog.built 58 []=some #[.int .i64 0,.int .i64 0,.int .u32 0,.slice none 0 0]:=by kernel_rfl
section
variable {W w:World} {jb b:Nat} {F:Nat→Prop} {d:De.D} {g:Pl.Gm} {a:Ja} {fv:Value}
theorem Jn.cells(h:Jn W w jb b F d g a fv):w.cell? ⟨jb,0,none⟩=some (.pointer (some ⟨b,0,none⟩))∧w.cell? ⟨jb,1,none⟩=some (.int .i64 g.p)∧w.cell? ⟨jb,2,none⟩=some (.int .i64 g.s)∧w.cell? ⟨jb,3,none⟩=some (.int .i64 g.l)∧w.cell? ⟨jb,4,none⟩=some (.int .i64 g.f)∧w.cell? ⟨jb,5,none⟩=some (.int .i64 a.seg)∧w.cell? ⟨jb,6,none⟩=some (.int .i64 a.off)∧w.cell? ⟨jb,7,none⟩=some (.int .u32 a.seq)∧w.cell? ⟨jb,8,none⟩=some fv :=
 ⟨h.blk.cell rfl,h.blk.cell rfl,h.blk.cell rfl,h.blk.cell rfl,h.blk.cell rfl,h.blk.cell rfl,h.blk.cell rfl,h.blk.cell rfl,h.blk.cell rfl⟩
theorem Jn.form(h:Jn W w jb b F d g a fv):∃fa fc,fv=.slice fa a.free.length fc:=h.fr.form
theorem Jf2(h:Jn W w jb b F d g a fv):Calls Tryz.prog 27 #[.pointer (some ⟨jb,0,none⟩)] w fun e w'=>∃tv,e=.returned (.agg #[.int .i64 a.seg,.int .i64 a.off,.int .u32 a.seq,tv])∧OwnN w' w.heap.size tv a.free∧Below w.heap.size w w':=by
 have hfew:=Ja.few h.good;obtain⟨fa,fc,hfv⟩:=h.form;obtain⟨n,hnn⟩:∃n,a.free.length=n:=⟨_,rfl⟩
 rw [hnn] at hfv;subst hfv;have HCO:=Zh fun w h=>kx a (.slice fa n fc) (by omega) w h;have HJ:=Zh h;have HN:=Zh hnn;clear hfew hnn h;go_enter Tryz.func27,Tryz.ntmps27;go_upto_region 0 with fail;refine Zl ?_;refine J4 KW rfl ?_;intro w0 hR hb hl;refine nm ?_;have HR:=Zh hR;have HB:=Zh hb;have HJ0:=Zh (HJ.below hb);clear hR hb hl;go_upto_region 3 with fail;refine Zl ?_;refine tk (.pointer (some ⟨jb,0,none⟩)) ?_;refine tk (.pointer (some ⟨jb,0,none⟩)) ?_;refine tk (.pointer (some ⟨jb,5,none⟩)) ?_;refine tk (.agg #[.int .i64 a.seg,.int .i64 a.off,.int .u32 a.seq,.slice fa n fc]) ?_ (hr:=by obtain⟨c0,c1,c2,c3,c4,c5,c6,c7,c8⟩:=HJ0.cells; go_simp);refine J0 rfl fun K hK=>?_;go_simp;refine (HCO.out _ HJ0.fr).mono ?_;rintro e w1 ⟨tv,rfl,ho,hb⟩;have HO:=Zh ho;have HB1:=Zh (Jk HB.out hb);have HR1:=Zh (HR.below hb HR.lt);have HLT:Hid (w.heap.size<w0.heap.size):=Zh HR.lt;obtain⟨ta,tc,htv⟩:=ho.ints.form;rw [HN.out] at htv;subst htv;clear ho hb HB HR HJ0;refine hK _ _ (nm ?_);clear hK K;refine J3 (cs:=#[.int .i64 a.seg,.int .i64 a.off,.int .u32 a.seq,.slice ta n tc]) HR1.out rfl JC (Kg _ _ _ _ _ _) rfl rfl rfl ?_;intro w2 hD hO hlD;refine nm ?_;have HB2:=Zh (HB1.trans (hO.below HB1.size fun k hk=>Nat.le_of_eq hk.symm));have HD:=Zh hD;have HO2:=Zh (OwnN.onlyN HO.out hO HLT.out);clear hD hO hlD;go_wp2_with fail
 refine bodyPost_ret (v:=.agg #[.int .i64 a.seg,.int .i64 a.off,.int .u32 a.seq,.slice ta n tc]) (Jr rfl _ _ w.heap.size 0 _ _ rfl Tryz.underlying58 rfl JC (HD.all rfl)) rfl ⟨_,rfl,HO2.mono (Nat.le_of_lt HLT.out),HB2.out⟩
end
open Go.RowKit
variable {cap g n:Nat} {v:Value} {w w':World}
theorem Only.cellZ(ho:Only (fun k=>k=g) w w'){a:Addr}(hne:a.block≠g)(hx:w.cell? a=some v):w'.cell? a=some v:=by
 have hb:=ho.block a.block (Km hx) hne;rw [←hx];simp only [World.cell?,hb]
theorem Chain.onlyZ{n:Int}(ho:Only (fun k=>k=g) w w')(hg:∀t,w.cell? ⟨g,0,none⟩≠some (.string t)):∀{ts:List ByteArray} {v:Value},Chain w n ts v→Chain w' n ts v
 | [],_,h=>h
 | _::_,_,⟨a,u,h1,h2,h3,h4,h5⟩=>by
  have hne:a≠g:=by
   rintro rfl;exact hg _ h2
  exact⟨a,u,h1,Only.cellZ ho (a:=⟨a,0,none⟩) hne h2,Only.cellZ ho (a:=⟨a,1,none⟩) hne h3,Only.cellZ ho (a:=⟨a,2,none⟩) hne h4,Chain.onlyZ ho hg h5⟩
theorem Fault.onlyZ{n:Int}(h:Fault w n v)(ho:Only (fun k=>k=g) w w'){x:Int}{l:List Value}(hb:Blk w g (.int .i64 x::l)):Fault w' n v:=by
 obtain⟨T,d,t,ts,e,hc⟩:=h;refine⟨T,d,t,ts,e,hc.onlyZ ho fun q hq=>?_⟩;rw [hb.cell (i:=0) rfl] at hq;cases hq
section
variable {W w:World} {jb b:Nat} {F:Nat→Prop} {d:De.D} {g:Pl.Gm} {a:Ja} {fv:Value}
def XX(g:Pl.Gm)(a:Ja)(L:List It):Bool:=JE L&&decide (((Jd a.seq L).1.length:Int)≤g.l)
theorem Jbs(h:Jn W w jb b F d g a fv)(l:List (It×Value))(L:List It)(hL:l.map (·.1)=L)(sv:Value)(hlen:l.length<100000)(hi:ItemsAt w sv l)(hno:XX g a L=false):Calls Tryz.prog 75 #[.pointer (some ⟨jb,0,none⟩),sv] w fun e w'=>∃v,e=.returned (.tuple #[.slice none 0 0,.slice none 0 0,v])∧Fault w' 1 v∧Below w.heap.size w w':=by
 have HLA:=Zh (qv l L hL a.seq h.seq sv hlen w hi);have HNF:=Zh fun s w=>QC 1 rfl s w;have HJ:=Zh h;obtain⟨c0,c1,c2,c3,c4,c5,c6,c7,c8⟩:=h.cells;obtain⟨sa,sc,hsv⟩:=Q2 hi;obtain⟨m,hm⟩:∃m,l.length=m:=⟨_,rfl⟩
 rw [hm] at hsv;subst hsv;cases hmb:JE L
 · rw [hmb] at HLA;clear h hL hlen hi hno hm hmb;go_enter Tryz.func75,Tryz.ntmps75
   go_wp2_with fail
   refine HLA.mono ?_;rintro e w1 ⟨s7,s8,rfl,ht⟩;have HB:=Zh ht.b;obtain⟨a7,c7',hv7,-⟩:=ht.s.len;obtain⟨a8,c8',hv8⟩:=ht.a.ints.form;subst hv7;subst hv8;clear ht c0 c1 c2 c3 c4 c5 c6 c7 c8
   go_wp2_with fail
   refine (HNF.out _ _).mono ?_;rintro e w2 ⟨v,rfl,hf,hb⟩;have HF:=Zh hf;have HB2:=Zh (Jk HB.out hb);obtain⟨T,dd,hv⟩:=hf.shape;subst hv;clear hf hb
   go_wp2_with fail
   first | go_ret3 | go_ret2 | go_ret
   exact⟨_,rfl,HF.out,HB2.out⟩
 · rw [hmb] at HLA;have hlt:g.l<((Jd a.seq L).1.length:Int):=by
    unfold XX at hno;rw [hmb,Bool.true_and,decide_eq_false_iff_not] at hno;omega
   have HLR:Hid (J07 a.seq L=Jd a.seq L):=Zh (by unfold J07; rw [hmb]; rfl);rw [HLR.out] at HLA;obtain⟨N,hN⟩:∃N,(Jd a.seq L).1.length=N:=⟨_,rfl⟩
   rw [hN] at hlt;have HNN:=Zh hN;clear h hL hlen hi hno hm hmb hN;go_enter Tryz.func75,Tryz.ntmps75
   go_wp2_with fail
   refine HLA.mono ?_;rintro e w1 ⟨s7,s8,rfl,ht⟩;have HB:=Zh ht.b;have HJ1:=Zh (HJ.below ht.b);obtain⟨a7,c7',hv7,-⟩:=ht.s.len;obtain⟨a8,c8',hv8⟩:=ht.a.ints.form;rw [HNN.out] at hv7;subst hv7;subst hv8;clear ht c0 c1 c2 c3 c4 c5 c6 c7 c8;have dl:decide (g.l<(N:Int))=true:=decide_eq_true hlt;obtain⟨c0,c1,c2,c3,c4,c5,c6,c7,c8⟩:=HJ1.cells
   go_wp2_with fail
   refine (HNF.out _ _).mono ?_;rintro e w2 ⟨v,rfl,hf,hb⟩;have HF:=Zh hf;have HB2:=Zh (Jk HB.out hb);obtain⟨T,dd,hv⟩:=hf.shape;subst hv;clear hf hb
   go_wp2_with fail
   first | go_ret3 | go_ret2 | go_ret
   exact⟨_,rfl,HF.out,HB2.out⟩
theorem yP(h:Jn W w jb b F d g a fv)(l:List (It×Value))(L:List It)(hL:l.map (·.1)=L)(sv:Value)(hlen:l.length<100000)(hi:ItemsAt w sv l)(hyes:XX g a L=true):Calls Tryz.prog 75 #[.pointer (some ⟨jb,0,none⟩),sv] w fun e w'=>∃s7 s8,e=.returned (.tuple #[s7,s8,.nilIface])∧Two w w' s7 s8 (Jd a.seq L):=by
 have hyy:JE L=true∧((Jd a.seq L).1.length:Int)≤g.l:=by
  unfold XX at hyes;simpa using hyes
 have HLA:=Zh (qv l L hL a.seq h.seq sv hlen w hi);have HJ:=Zh h;obtain⟨c0,c1,c2,c3,c4,c5,c6,c7,c8⟩:=h.cells;obtain⟨sa,sc,hsv⟩:=Q2 hi;obtain⟨m,hm⟩:∃m,l.length=m:=⟨_,rfl⟩
 rw [hm] at hsv;subst hsv;obtain⟨hmb,hle⟩:=hyy;rw [hmb] at HLA;have HLR:Hid (J07 a.seq L=Jd a.seq L):=Zh (by unfold J07; rw [hmb]; rfl);rw [HLR.out] at HLA;obtain⟨N,hN⟩:∃N,(Jd a.seq L).1.length=N:=⟨_,rfl⟩
 rw [hN] at hle;have HNN:=Zh hN;clear h hL hlen hi hyes hm hmb hN;go_enter Tryz.func75,Tryz.ntmps75
 go_wp2_with fail
 refine HLA.mono ?_;rintro e w1 ⟨s7,s8,rfl,ht⟩;have HT:=Zh ht;have HJ1:=Zh (HJ.below ht.b);obtain⟨a7,c7',hv7,-⟩:=ht.s.len;obtain⟨a8,c8',hv8⟩:=ht.a.ints.form;rw [HNN.out] at hv7;subst hv7;subst hv8;clear ht c0 c1 c2 c3 c4 c5 c6 c7 c8;have dl:decide (g.l<(N:Int))=false:=decide_eq_false (by omega);obtain⟨c0,c1,c2,c3,c4,c5,c6,c7,c8⟩:=HJ1.cells
 go_wp2_with fail
 first | go_ret3 | go_ret2 | go_ret
 exact⟨_,_,rfl,HT.out⟩
def QN(g:Pl.Gm)(a:Ja)(n:Nat):Option Ja:=if (n:Int)≤g.l-a.off then some a else match a.free with
 | []=>none
 | f::r=>some ⟨f,0,a.seq,r⟩
theorem Jf3:Tryz.prog.underlying 41=some (.slice (Tryz.prog.elem 41))∧Tryz.prog.elem 41=3:=⟨by kernel_rfl,by kernel_rfl⟩
theorem Jgs(w:World):(Go.sizeOf 3).run Tryz.prog w=.ok 1 w:=by
 obtain⟨i,hi,hs⟩:=KQ J26;simp [Go.sizeOf,typeInfo,hi,hs]
theorem J0t(w:World)(q:Option Addr)(n cap f:Nat)(h1:f≤n):(Instr.sliceAt 41 (.slice q n cap) (some (.int .i64 f)) none none).run Tryz.prog w=.ok (.slice (K4 q f cap 1) (n-f) (cap-f)) w:=by
 rw [run_sliceAt_slice w 41 _ _ _ _ Jf3.1,run_slice_l w 41 q n cap Jf3.1 .i64 f (by omega) (by omega),Jf3.2,Jgs];rfl
theorem Xv(w:World)(ev:Operand→Value)(op:Oper)(x y:Operand)(ho:op.op=.slice 41 x (some y) none none)(q:Option Addr)(n cap f:Nat)(hx:ev x=.slice q n cap)(hy:ev y=.int .i64 f)(h1:f≤n):(execOp ev op).run Tryz.prog w=.ok (.value (.slice (K4 q f cap 1) (n-f) (cap-f))) w:=by
 unfold execOp;simp only [ho,hx,hy,Option.map_some,Option.map_none,Sem.run_bind,J0t w q n cap f h1,Result.andThen_ok,Sem.run_pure]
theorem IntsAt.tail{x:Int}{r:List Int}{q:Option Addr}(h:IntsAt w (.slice q n cap) (x::r))(hcap:n≤cap):IntsAt w (.slice (K4 q 1 cap 1) (n-1) (cap-1)) r∧∀b o m c,Value.slice (K4 q 1 cap 1) (n-1) (cap-1)=.slice (some ⟨b,o,none⟩) m c→∃o2,q=some ⟨b,o2,none⟩:=by
 obtain⟨q',c',e,hc⟩:=h;obtain⟨b,o,hq,-⟩:=hc 0 x rfl;injection e with e1 e2 e3
 subst e1;subst hq;simp only [List.length_cons] at e2;refine⟨⟨_,_,by rw [show n-1=r.length by omega],fun i y hy=>?_⟩,fun b' o' m c he=>?_⟩
 · obtain⟨b2,o2,h1,h2⟩:=hc (i+1) y (by simpa using hy);cases h1;have:¬cap=1:=by have:=(List.getElem?_eq_some_iff.1 hy).1; omega
   refine⟨b,o+1,?_,by rw [show o+1+i=o+(i+1) by omega]; exact h2⟩;unfold K4;rw [if_neg this];simp [Addr.add_lit]
 · unfold K4 at he;split at he
   · cases he;exact⟨_,rfl⟩
   · simp only [Option.map_some,Addr.add_lit] at he;injection he with h1 h2 h3
     simp only [Option.some.injEq,Addr.mk.injEq] at h1;exact⟨o,by rw [←h1.1]⟩
structure Room (w':World) (fv fv':Value) (a':Ja):Prop where
 fr:IntsAt w' fv' a'.free
 src:∀b o n c,fv'=.slice (some ⟨b,o,none⟩) n c→∃o2 n2 c2,fv=.slice (some ⟨b,o2,none⟩) n2 c2
 cp:∀q n c,fv'=.slice q n c→n≤c
theorem J4g(h:Jn W w jb b F d g a fv)(n:Nat)(hn:(n:Int)≤g.l-a.off):Calls Tryz.prog 76 #[.pointer (some ⟨jb,0,none⟩),.int .i64 n] w fun e w'=>e=.returned (.tuple #[.agg #[.int .i64 a.seg,.int .i64 a.off,.int .u32 a.seq,fv],.nilIface])∧Room w' fv fv a∧Below w.heap.size w w':=by
 have HJ:=Zh h;obtain⟨hgo,-,ho1,ho2,-⟩:=Ja.good_parts h.good;have hg32:=hgo.2.2.1.2;obtain⟨fa,fc,hfv⟩:=h.form;obtain⟨m,hm⟩:∃m,a.free.length=m:=⟨_,rfl⟩
 rw [hm] at hfv;subst hfv;have gw:Hid (IntKind.i64.wrap (g.l-a.off)=g.l-a.off):=Zh (JR (by omega) (by omega));have dn:decide ((n:Int)≤g.l-a.off)=true:=decide_eq_true hn;clear h hm hn hgo ho1 ho2 hg32;go_enter Tryz.func76,Tryz.ntmps76;go_upto_region 0 with fail;refine Zl ?_;refine J4 KW rfl ?_;intro w0 hR hb hl;refine nm ?_;have HR:=Zh hR;have HB:=Zh hb;have HJ0:=Zh (HJ.below hb);have HLT:Hid (w.heap.size<w0.heap.size):=Zh hl;clear hR hb hl;refine tk (.nilIface) ?_;go_upto_region 1 with fail;refine Zl ?_;refine tk (.pointer (some ⟨jb,0,none⟩)) ?_;refine tk (.pointer (some ⟨jb,0,none⟩)) ?_;refine tk (.pointer (some ⟨jb,5,none⟩)) ?_;refine tk (.agg #[.int .i64 a.seg,.int .i64 a.off,.int .u32 a.seq,.slice fa m fc]) ?_ (hr:=by obtain⟨c0,c1,c2,c3,c4,c5,c6,c7,c8⟩:=HJ0.cells; go_simp);refine J4 KW rfl ?_;intro w1 hA hb hl;refine nm ?_;refine J3 (cs:=#[.int .i64 a.seg,.int .i64 a.off,.int .u32 a.seq,.slice fa m fc]) hA rfl JC (Kg _ _ _ _ _ _) rfl rfl rfl ?_;intro w2 hD hO hlD;refine nm ?_;have hbb:Below w0.heap.size w0 w2:=hb.trans (hO.below hb.size fun k hk=>Nat.le_of_eq hk.symm);have HV:=Zh hD;have HB2:=Zh (Jk HB.out hbb);have HR2:=Zh (HR.below hbb HR.lt);have HJ2:=Zh (HJ0.below hbb);generalize w0.heap.size=v at *;clear hA hb hl hD hO hlD hbb HJ0 HB HR;go_upto_region 2 with fail
 go_cut [20] from 11 to 20 (fun s wx=>s=.bool true∧Below w2.heap.size w2 wx)
 case first =>
  refine J8 (fun wq=>Below w2.heap.size w2 wq) (by kernel_rfl) ?_;have HSd:Hid (Below w2.heap.size w2 w2.drew):=Zh (Below.refl _ _).drew;refine th 0 11 (.pointer (some ⟨jb,0,none⟩)) HSd.out ?_;refine th 1 12 (.pointer (some ⟨jb,0,none⟩)) HSd.out ?_;refine th 2 13 (.pointer (some ⟨jb,1,none⟩)) HSd.out ?_;refine th 3 14 (.pointer (some ⟨jb,3,none⟩)) HSd.out ?_;refine th 4 15 (.int .i64 g.l) HSd.out ?_ (hy:=fun wq hS=>by obtain⟨c0,c1,c2,c3,c4,c5,c6,c7,c8⟩:=(HJ2.below hS).cells; go_simp);refine th 5 16 (.pointer (some ⟨v,1,none⟩)) HSd.out ?_;refine th 6 17 (.int .i64 a.off) HSd.out ?_ (hy:=fun wq hS=>by have q:=(HV.below hS HV.lt).cell (i:=1) rfl; go_simp);refine th 7 18 (.int .i64 (g.l-a.off)) HSd.out ?_ (hy:=fun wq hS=>by have q:=gw.out; go_simp);refine th 8 19 (.int .i64 n) HSd.out ?_;refine th 9 20 (.bool true) HSd.out ?_;refine Zd ?_
  go_wp2_with fail
  go_meet
  exact⟨rfl,HSd.out⟩
 case rest =>
  obtain⟨rfl,hb⟩:=hcut;have HV3:=Zh (HV.below hb HV.lt);have HR3:=Zh (HR2.below hb HR2.lt);have HB3:=Zh (Jk HB2.out hb);clear hb;go_upto_region 3 with fail;refine Zl ?_;refine tk (.agg #[.int .i64 a.seg,.int .i64 a.off,.int .u32 a.seq,.slice fa m fc]) ?_ (hr:=by have q:=HV3.out; have q0:=q.cell (i:=0) rfl; have q1:=q.cell (i:=1) rfl; have q2:=q.cell (i:=2) rfl; have q3:=q.cell (i:=3) rfl; go_simp);refine J3 (cs:=#[.int .i64 a.seg,.int .i64 a.off,.int .u32 a.seq,.slice fa m fc]) HR3.out rfl JC (Kg _ _ _ _ _ _) rfl rfl rfl ?_;intro w4 hD hO hlD;refine nm ?_;have HD:=Zh hD;have HB4:=Zh (HB3.trans (hO.below HB3.size fun k hk=>Nat.le_of_eq hk.symm));clear hD hO hlD;refine tk (.nilIface) ?_;go_wp2_with fail
  refine bodyPost_ret (v:=.tuple #[.agg #[.int .i64 a.seg,.int .i64 a.off,.int .u32 a.seq,.slice fa m fc],.nilIface]) (De.results_cell_tmp rfl _ _ w.heap.size 0 _ _ _ rfl rfl Tryz.underlying58 rfl JC (HD.all rfl)) rfl ⟨rfl,⟨HJ.fr.below HB4.out,fun b o n c e=>⟨o,n,c,e⟩,HJ.cp⟩,HB4.out⟩
theorem J4h(h:Jn W w jb b F d g a fv)(n:Nat)(hn:¬(n:Int)≤g.l-a.off)(hf:a.free=[]):Calls Tryz.prog 76 #[.pointer (some ⟨jb,0,none⟩),.int .i64 n] w fun e w'=>∃v,e=.returned (.tuple #[.agg #[.int .i64 0,.int .i64 0,.int .u32 0,.slice none 0 0],v])∧Fault w' 14 v∧Below w.heap.size w w':=by
 have HJ:=Zh h;obtain⟨hgo,-,ho1,ho2,-⟩:=Ja.good_parts h.good;have hg32:=hgo.2.2.1.2;obtain⟨fa,fc,hfv⟩:=h.form;obtain⟨m,hm⟩:∃m,a.free.length=m:=⟨_,rfl⟩
 rw [hm] at hfv;have hm0:m=0:=by rw [←hm,hf]; rfl
 subst hm0;subst hfv;have gw:Hid (IntKind.i64.wrap (g.l-a.off)=g.l-a.off):=Zh (JR (by omega) (by omega));have dn:decide ((n:Int)≤g.l-a.off)=false:=decide_eq_false hn;have HNF:=Zh fun s w=>QC 14 rfl s w;clear h hf hm hn hgo ho1 ho2 hg32;go_enter Tryz.func76,Tryz.ntmps76;go_upto_region 0 with fail;refine Zl ?_;refine J4 KW rfl ?_;intro w0 hR hb hl;refine nm ?_;have HR:=Zh hR;have HB:=Zh hb;have HJ0:=Zh (HJ.below hb);have HLT:Hid (w.heap.size<w0.heap.size):=Zh hl;clear hR hb hl;refine tk (.nilIface) ?_;go_upto_region 1 with fail;refine Zl ?_;refine tk (.pointer (some ⟨jb,0,none⟩)) ?_;refine tk (.pointer (some ⟨jb,0,none⟩)) ?_;refine tk (.pointer (some ⟨jb,5,none⟩)) ?_;refine tk (.agg #[.int .i64 a.seg,.int .i64 a.off,.int .u32 a.seq,.slice fa 0 fc]) ?_ (hr:=by obtain⟨c0,c1,c2,c3,c4,c5,c6,c7,c8⟩:=HJ0.cells; go_simp);refine J4 KW rfl ?_;intro w1 hA hb hl;refine nm ?_;refine J3 (cs:=#[.int .i64 a.seg,.int .i64 a.off,.int .u32 a.seq,.slice fa 0 fc]) hA rfl JC (Kg _ _ _ _ _ _) rfl rfl rfl ?_;intro w2 hD hO hlD;refine nm ?_;have hbb:Below w0.heap.size w0 w2:=hb.trans (hO.below hb.size fun k hk=>Nat.le_of_eq hk.symm);have HV:=Zh hD;have HB2:=Zh (Jk HB.out hbb);have HR2:=Zh (HR.below hbb HR.lt);have HJ2:=Zh (HJ0.below hbb);generalize w0.heap.size=v at *;clear hA hb hl hD hO hlD hbb HJ0 HB HR;go_upto_region 2 with fail
 go_cut [20] from 11 to 20 (fun s wx=>s=.bool false∧Below w2.heap.size w2 wx)
 case first =>
  refine J8 (fun wq=>Below w2.heap.size w2 wq) (by kernel_rfl) ?_;have HSd:Hid (Below w2.heap.size w2 w2.drew):=Zh (Below.refl _ _).drew;refine th 0 11 (.pointer (some ⟨jb,0,none⟩)) HSd.out ?_;refine th 1 12 (.pointer (some ⟨jb,0,none⟩)) HSd.out ?_;refine th 2 13 (.pointer (some ⟨jb,1,none⟩)) HSd.out ?_;refine th 3 14 (.pointer (some ⟨jb,3,none⟩)) HSd.out ?_;refine th 4 15 (.int .i64 g.l) HSd.out ?_ (hy:=fun wq hS=>by obtain⟨c0,c1,c2,c3,c4,c5,c6,c7,c8⟩:=(HJ2.below hS).cells; go_simp);refine th 5 16 (.pointer (some ⟨v,1,none⟩)) HSd.out ?_;refine th 6 17 (.int .i64 a.off) HSd.out ?_ (hy:=fun wq hS=>by have q:=(HV.below hS HV.lt).cell (i:=1) rfl; go_simp);refine th 7 18 (.int .i64 (g.l-a.off)) HSd.out ?_ (hy:=fun wq hS=>by have q:=gw.out; go_simp);refine th 8 19 (.int .i64 n) HSd.out ?_;refine th 9 20 (.bool false) HSd.out ?_;refine Zd ?_
  go_wp2_with fail
  go_meet
  exact⟨rfl,HSd.out⟩
 case rest =>
  obtain⟨rfl,hb⟩:=hcut;have HV3:=Zh (HV.below hb HV.lt);have HR3:=Zh (HR2.below hb HR2.lt);have HB3:=Zh (Jk HB2.out hb);clear hb;have q3:=HV3.cell (i:=3) rfl;go_upto_region 5 with fail;refine Zl ?_;clear q3;refine tk (.agg #[.int .i64 0,.int .i64 0,.int .u32 0,.slice none 0 0]) ?_ (hr:=(Jc _ _ _ _ 58 _ rfl #[] (by simp) _ (run_build _ 58 _ _ yO)));refine J0 rfl fun K hK=>?_;go_simp;refine (HNF.out _ _).mono ?_;rintro e w4 ⟨v2,rfl,hf,hb⟩;have HF4:=Zh hf;have HB4:=Zh (Jk HB3.out hb);have HR4:=Zh (HR3.below hb HR3.lt);obtain⟨T,dd,hv⟩:=hf.shape;subst hv;clear hf hb;refine hK _ _ (nm ?_);clear hK K;refine J3 (cs:=#[.int .i64 0,.int .i64 0,.int .u32 0,.slice none 0 0]) HR4.out rfl JC (Kg _ _ _ _ _ _) rfl rfl rfl ?_;intro w5 hD hO hlD;refine nm ?_;have HD:=Zh hD;have HB5:=Zh (HB4.trans (hO.below HB4.size fun k hk=>Nat.le_of_eq hk.symm));have HF5:=Zh (HF4.onlyZ hO HR4.out);clear hD hO hlD;refine tk (.iface T dd) ?_;go_wp2_with fail
  refine bodyPost_ret (v:=.tuple #[.agg #[.int .i64 0,.int .i64 0,.int .u32 0,.slice none 0 0],.iface T dd]) (De.results_cell_tmp rfl _ _ w.heap.size 0 _ _ _ rfl rfl Tryz.underlying58 rfl JC (HD.all rfl)) rfl ⟨_,rfl,HF5.out,HB5.out⟩
theorem J4i(h:Jn W w jb b F d g a fv)(n:Nat)(hn:¬(n:Int)≤g.l-a.off)(f:Int)(r:List Int)(hf:a.free=f::r):Calls Tryz.prog 76 #[.pointer (some ⟨jb,0,none⟩),.int .i64 n] w fun e w'=>∃fv',e=.returned (.tuple #[.agg #[.int .i64 f,.int .i64 0,.int .u32 a.seq,fv'],.nilIface])∧Room w' fv fv' ⟨f,0,a.seq,r⟩∧Below w.heap.size w w':=by
 have HJ:=Zh h;obtain⟨hgo,-,ho1,ho2,-⟩:=Ja.good_parts h.good;have hg32:=hgo.2.2.1.2;have hfew:=Ja.few h.good;obtain⟨fa,fc,hfv⟩:=h.form;obtain⟨m,hm⟩:∃m,a.free.length=m:=⟨_,rfl⟩
 have hm1:m=r.length+1:=by rw [←hm,hf]; rfl
 rw [hm] at hfv hfew;subst hfv;have HCP:=Zh (h.cp _ _ _ rfl);have HT:Hid (∀w',Below w.heap.size w w'→IntsAt w' (.slice (K4 fa 1 fc 1) (m-1) (fc-1)) r∧∀b o m' c,Value.slice (K4 fa 1 fc 1) (m-1) (fc-1)=.slice (some ⟨b,o,none⟩) m' c→∃o2,fa=some ⟨b,o2,none⟩):=Zh (fun w' hb=>(show IntsAt w' (.slice fa m fc) (f::r) from by rw [←hf]; exact h.fr.below hb).tail (h.cp _ _ _ rfl));obtain⟨qb,qo,hfa,hq0⟩:∃b o,fa=some ⟨b,o,none⟩∧w.cell? ⟨b,o,none⟩=some (.int .i64 f):=by
  obtain⟨q',c',e,hc⟩:=h.fr;obtain⟨b2,o2,h1,h2⟩:=hc 0 f (by rw [hf]; rfl);cases e;exact⟨b2,o2,h1,h2⟩
 subst hfa;have HQ:=Zh hq0;have HQL:=Zh (block_lt_of_cell hq0);have gw:Hid (IntKind.i64.wrap (g.l-a.off)=g.l-a.off):=Zh (JR (by omega) (by omega));have dn:decide ((n:Int)≤g.l-a.off)=false:=decide_eq_false hn;have hmz:((m:Int) == 0)=false:=by rw [beq_eq_false_iff_ne]; omega
 have hmp:(0:Int)<(m:Int):=by omega
 have hmn:1≤m:=by omega
 clear h hf hm hn hgo ho1 ho2 hg32 hq0 hfew hm1;go_enter Tryz.func76,Tryz.ntmps76;go_upto_region 0 with fail;refine Zl ?_;refine J4 KW rfl ?_;intro w0 hR hb hl;refine nm ?_;have HR:=Zh hR;have HB:=Zh hb;have HJ0:=Zh (HJ.below hb);have HLT:Hid (w.heap.size<w0.heap.size):=Zh hl;clear hR hb hl;refine tk (.nilIface) ?_;go_upto_region 1 with fail;refine Zl ?_;refine tk (.pointer (some ⟨jb,0,none⟩)) ?_;refine tk (.pointer (some ⟨jb,0,none⟩)) ?_;refine tk (.pointer (some ⟨jb,5,none⟩)) ?_;refine tk (.agg #[.int .i64 a.seg,.int .i64 a.off,.int .u32 a.seq,.slice (some ⟨qb,qo,none⟩) m fc]) ?_ (hr:=by obtain⟨c0,c1,c2,c3,c4,c5,c6,c7,c8⟩:=HJ0.cells; go_simp);refine J4 KW rfl ?_;intro w1 hA hb hl;refine nm ?_;refine J3 (cs:=#[.int .i64 a.seg,.int .i64 a.off,.int .u32 a.seq,.slice (some ⟨qb,qo,none⟩) m fc]) hA rfl JC (Kg _ _ _ _ _ _) rfl rfl rfl ?_;intro w2 hD hO hlD;refine nm ?_;have hbb:Below w0.heap.size w0 w2:=hb.trans (hO.below hb.size fun k hk=>Nat.le_of_eq hk.symm);have HV:=Zh hD;have HB2:=Zh (Jk HB.out hbb);have HR2:=Zh (HR.below hbb HR.lt);have HJ2:=Zh (HJ0.below hbb);generalize w0.heap.size=v at *;clear hA hb hl hD hO hlD hbb HJ0 HB HR;go_upto_region 2 with fail
 go_cut [20] from 11 to 20 (fun s wx=>s=.bool false∧Below w2.heap.size w2 wx)
 case first =>
  refine J8 (fun wq=>Below w2.heap.size w2 wq) (by kernel_rfl) ?_;have HSd:Hid (Below w2.heap.size w2 w2.drew):=Zh (Below.refl _ _).drew;refine th 0 11 (.pointer (some ⟨jb,0,none⟩)) HSd.out ?_;refine th 1 12 (.pointer (some ⟨jb,0,none⟩)) HSd.out ?_;refine th 2 13 (.pointer (some ⟨jb,1,none⟩)) HSd.out ?_;refine th 3 14 (.pointer (some ⟨jb,3,none⟩)) HSd.out ?_;refine th 4 15 (.int .i64 g.l) HSd.out ?_ (hy:=fun wq hS=>by obtain⟨c0,c1,c2,c3,c4,c5,c6,c7,c8⟩:=(HJ2.below hS).cells; go_simp);refine th 5 16 (.pointer (some ⟨v,1,none⟩)) HSd.out ?_;refine th 6 17 (.int .i64 a.off) HSd.out ?_ (hy:=fun wq hS=>by have q:=(HV.below hS HV.lt).cell (i:=1) rfl; go_simp);refine th 7 18 (.int .i64 (g.l-a.off)) HSd.out ?_ (hy:=fun wq hS=>by have q:=gw.out; go_simp);refine th 8 19 (.int .i64 n) HSd.out ?_;refine th 9 20 (.bool false) HSd.out ?_;refine Zd ?_
  go_wp2_with fail
  go_meet
  exact⟨rfl,HSd.out⟩
 case rest =>
  obtain⟨rfl,hb⟩:=hcut;have HV3:=Zh (HV.below hb HV.lt);have HR3:=Zh (HR2.below hb HR2.lt);have HB3:=Zh (Jk HB2.out hb);have HVS:Hid (w.heap.size<v):=HLT;clear hb HV HR2 HB2 HJ2;have q3:=HV3.cell (i:=3) rfl;go_upto_region 6 with fail
  go_cut [28] from 29 to 37 (fun s wx=>s=.pointer (some ⟨v,3,none⟩)∧Blk wx v [.int .i64 f,.int .i64 0,.int .u32 a.seq,.slice (K4 (some ⟨qb,qo,none⟩) 1 fc 1) (m-1) (fc-1)]∧Only (fun k=>k=v) wc wx)
  case first =>
   refine J8 (fun wq=>Only (fun k=>k=v) wc wq) (by kernel_rfl) ?_;have HSd:Hid (Only (fun k=>k=v) wc wc.drew):=Zh (Only.refl _ _).drew;have HVd:=Zh HV3.drew;have HQ3:Hid (∀wq,Only (fun k=>k=v) wc wq→wq.cell? ⟨qb,qo,none⟩=some (.int .i64 f)):=Zh fun wq hS=>hS.cellZ (a:=⟨qb,qo,none⟩) (by have h1:qb<w.heap.size:=HQL.out; have h2:w.heap.size<v:=HVS.out; show ¬qb=v; omega) ((HB3.cell (p:=⟨qb,qo,none⟩) HQL.out).trans HQ.out);have HVL:Hid (Only (fun k=>k=v) wc wc.drew):=HSd;generalize wc.drew=wS at *;refine th 0 28 (.pointer (some ⟨v,3,none⟩)) HSd.out ?_;refine th 4 32 (.pointer (some ⟨v,3,none⟩)) HSd.out ?_;refine q9 1 5 (by kernel_rfl) rfl rfl rfl rfl (fun K hK=>?_) (fun K hK=>?_)
   · refine Jg (some 29) rfl (.slice (some ⟨qb,qo,none⟩) m fc) wS (by have hq:=HVd.cell (i:=3) rfl; go_simp) ?_;refine hK _ _ HSd.out (nm ?_);clear hK K;refine th 2 30 (.pointer (some ⟨qb,qo,none⟩)) HSd.out ?_ (hy:=fun wq hS=>by have hm0:¬m=0:=(by omega); have hm1:(0:Int)<(m:Int):=hmp; go_simp);refine th 3 31 (.int .i64 f) HSd.out ?_ (hy:=fun wq hS=>by have q:=HQ3.out wq hS; go_simp);refine Zo 5 fun K hK=>?_;refine Jg (some 33) rfl (.slice (some ⟨qb,qo,none⟩) m fc) wS (by have hq:=HVd.cell (i:=3) rfl; go_simp) ?_;refine hK _ _ HSd.out (nm ?_);clear hK K;refine Jj 6 (some 34) (.slice (K4 (some ⟨qb,qo,none⟩) 1 fc 1) (m-1) (fc-1)) rfl rfl (by kernel_rfl) (by kernel_rfl) (by kernel_rfl) (fun _ _ _ h=>h) rfl (fun wq hS=>Xv wq _ _ _ _ rfl (some ⟨qb,qo,none⟩) m fc 1 rfl rfl hmn) HSd.out ?_;refine nm ?_;refine th 7 35 (.pointer (some ⟨v,0,none⟩)) HSd.out ?_;refine Zo 8 fun K hK=>?_;refine JU none rfl (wS.setCell ⟨v,0,none⟩ (.int .i64 f)) (by have hq:=HVd.cell (i:=0) rfl; have hf:=HVd.frozen 0; go_simp) ?_;have HSe:Hid (Only (fun k=>k=v) wc (wS.setCell ⟨v,0,none⟩ (.int .i64 f))):=Zh (HSd.setCell (p:=⟨v,0,none⟩) (.inl rfl) _);have HVe:=Zh (HVd.set 0 (.int .i64 f));refine hK _ _ HSe.out ?_;clear hK K;generalize wS.setCell ⟨v,0,none⟩ (.int .i64 f)=wT at *;refine nm ?_;refine th 9 36 (.pointer (some ⟨v,1,none⟩)) HSe.out ?_;refine Zo 10 fun K hK=>?_;refine JU none rfl (wT.setCell ⟨v,1,none⟩ (.int .i64 0)) (by have hq:=HVe.cell (i:=1) rfl; have hf:=HVe.frozen 1; go_simp) ?_;have HSf:Hid (Only (fun k=>k=v) wc (wT.setCell ⟨v,1,none⟩ (.int .i64 0))):=Zh (HSe.setCell (p:=⟨v,1,none⟩) (.inl rfl) _);have HVf:=Zh (HVe.set 1 (.int .i64 0));refine hK _ _ HSf.out ?_;clear hK K;generalize wT.setCell ⟨v,1,none⟩ (.int .i64 0)=wU at *;refine nm ?_;refine th 11 37 (.pointer (some ⟨v,3,none⟩)) HSf.out ?_;refine Zo 12 fun K hK=>?_;refine JU none rfl (wU.setCell ⟨v,3,none⟩ (.slice (K4 (some ⟨qb,qo,none⟩) 1 fc 1) (m-1) (fc-1))) (by have hq:=HVf.cell (i:=3) rfl; have hf:=HVf.frozen 3; go_simp) ?_;have HSg:Hid (Only (fun k=>k=v) wc (wU.setCell ⟨v,3,none⟩ (.slice (K4 (some ⟨qb,qo,none⟩) 1 fc 1) (m-1) (fc-1)))):=Zh (HSf.setCell (p:=⟨v,3,none⟩) (.inl rfl) _);have HVg:=Zh (HVf.set 3 (.slice (K4 (some ⟨qb,qo,none⟩) 1 fc 1) (m-1) (fc-1)));refine hK _ _ HSg.out ?_;clear hK K;generalize wU.setCell ⟨v,3,none⟩ (.slice (K4 (some ⟨qb,qo,none⟩) 1 fc 1) (m-1) (fc-1))=wV at *;refine nm ?_;refine Zd ?_
     go_wp2_with fail
     go_meet
     exact⟨rfl,HVg.out,HSg.out⟩
   · refine Jg (some 33) rfl (.slice (some ⟨qb,qo,none⟩) m fc) wS (by have hq:=HVd.cell (i:=3) rfl; go_simp) ?_;refine hK _ _ HSd.out (nm ?_);clear hK K;refine Jj 6 (some 34) (.slice (K4 (some ⟨qb,qo,none⟩) 1 fc 1) (m-1) (fc-1)) rfl rfl (by kernel_rfl) (by kernel_rfl) (by kernel_rfl) (fun _ _ _ h=>h) rfl (fun wq hS=>Xv wq _ _ _ _ rfl (some ⟨qb,qo,none⟩) m fc 1 rfl rfl hmn) HSd.out ?_;refine nm ?_;refine Zo 1 fun K hK=>?_;refine Jg (some 29) rfl (.slice (some ⟨qb,qo,none⟩) m fc) wS (by have hq:=HVd.cell (i:=3) rfl; go_simp) ?_;refine hK _ _ HSd.out (nm ?_);clear hK K;refine th 2 30 (.pointer (some ⟨qb,qo,none⟩)) HSd.out ?_ (hy:=fun wq hS=>by have hm0:¬m=0:=(by omega); have hm1:(0:Int)<(m:Int):=hmp; go_simp);refine th 3 31 (.int .i64 f) HSd.out ?_ (hy:=fun wq hS=>by have q:=HQ3.out wq hS; go_simp);refine th 7 35 (.pointer (some ⟨v,0,none⟩)) HSd.out ?_;refine Zo 8 fun K hK=>?_;refine JU none rfl (wS.setCell ⟨v,0,none⟩ (.int .i64 f)) (by have hq:=HVd.cell (i:=0) rfl; have hf:=HVd.frozen 0; go_simp) ?_;have HSe:Hid (Only (fun k=>k=v) wc (wS.setCell ⟨v,0,none⟩ (.int .i64 f))):=Zh (HSd.setCell (p:=⟨v,0,none⟩) (.inl rfl) _);have HVe:=Zh (HVd.set 0 (.int .i64 f));refine hK _ _ HSe.out ?_;clear hK K;generalize wS.setCell ⟨v,0,none⟩ (.int .i64 f)=wT at *;refine nm ?_;refine th 9 36 (.pointer (some ⟨v,1,none⟩)) HSe.out ?_;refine Zo 10 fun K hK=>?_;refine JU none rfl (wT.setCell ⟨v,1,none⟩ (.int .i64 0)) (by have hq:=HVe.cell (i:=1) rfl; have hf:=HVe.frozen 1; go_simp) ?_;have HSf:Hid (Only (fun k=>k=v) wc (wT.setCell ⟨v,1,none⟩ (.int .i64 0))):=Zh (HSe.setCell (p:=⟨v,1,none⟩) (.inl rfl) _);have HVf:=Zh (HVe.set 1 (.int .i64 0));refine hK _ _ HSf.out ?_;clear hK K;generalize wT.setCell ⟨v,1,none⟩ (.int .i64 0)=wU at *;refine nm ?_;refine th 11 37 (.pointer (some ⟨v,3,none⟩)) HSf.out ?_;refine Zo 12 fun K hK=>?_;refine JU none rfl (wU.setCell ⟨v,3,none⟩ (.slice (K4 (some ⟨qb,qo,none⟩) 1 fc 1) (m-1) (fc-1))) (by have hq:=HVf.cell (i:=3) rfl; have hf:=HVf.frozen 3; go_simp) ?_;have HSg:Hid (Only (fun k=>k=v) wc (wU.setCell ⟨v,3,none⟩ (.slice (K4 (some ⟨qb,qo,none⟩) 1 fc 1) (m-1) (fc-1)))):=Zh (HSf.setCell (p:=⟨v,3,none⟩) (.inl rfl) _);have HVg:=Zh (HVf.set 3 (.slice (K4 (some ⟨qb,qo,none⟩) 1 fc 1) (m-1) (fc-1)));refine hK _ _ HSg.out ?_;clear hK K;generalize wU.setCell ⟨v,3,none⟩ (.slice (K4 (some ⟨qb,qo,none⟩) 1 fc 1) (m-1) (fc-1))=wV at *;refine nm ?_;refine Zd ?_
     go_wp2_with fail
     go_meet
     exact⟨rfl,HVg.out,HSg.out⟩
  case rest =>
   obtain⟨rfl,hv,ho⟩:=hcut;have HBx:=Zh (HB3.trans (ho.below HB3.size fun k hk=>by have h2:w.heap.size<v:=HVS.out; omega));have HVx:=Zh hv;have HRx:=Zh (HR3.only ho (by have:=HR3.lt; have h2:w.heap.size<v:=HVS.out; omega));clear hv ho;go_upto_region 7 with fail;refine Zl ?_;refine tk (.agg #[.int .i64 f,.int .i64 0,.int .u32 a.seq,.slice (K4 (some ⟨qb,qo,none⟩) 1 fc 1) (m-1) (fc-1)]) ?_ (hr:=by have q:=HVx.out; have q0:=q.cell (i:=0) rfl; have q1:=q.cell (i:=1) rfl; have q2:=q.cell (i:=2) rfl; have q3:=q.cell (i:=3) rfl; go_simp);refine J3 (cs:=#[.int .i64 f,.int .i64 0,.int .u32 a.seq,.slice (K4 (some ⟨qb,qo,none⟩) 1 fc 1) (m-1) (fc-1)]) HRx.out rfl JC (Kg _ _ _ _ _ _) rfl rfl rfl ?_;intro w5 hD hO hlD;refine nm ?_;have HD:=Zh hD;have HB5:=Zh (HBx.trans (hO.below HBx.size fun k hk=>Nat.le_of_eq hk.symm));clear hD hO hlD;refine tk (.nilIface) ?_;go_wp2_with fail
   refine bodyPost_ret (v:=.tuple #[.agg #[.int .i64 f,.int .i64 0,.int .u32 a.seq,.slice (K4 (some ⟨qb,qo,none⟩) 1 fc 1) (m-1) (fc-1)],.nilIface]) (De.results_cell_tmp rfl _ _ w.heap.size 0 _ _ _ rfl rfl Tryz.underlying58 rfl JC (HD.all rfl)) rfl ⟨_,rfl,?_,HB5.out⟩;obtain⟨h1,h2⟩:=HT.out _ HB5.out;exact⟨h1,fun b o n c he=>by
    obtain⟨o2,h3⟩:=h2 b o n c he
    exact⟨o2,m,fc,by rw [h3]⟩,fun q n c he=>by
    have:=HCP.out
    injection he with e1 e2 e3
    omega⟩
end
open Go.RowKit
open De (exec_load_at)
def wrs:De.D→Int→List (List Int)→De.D×Bool
 | d,_,[]=>(d,true)
 | d,i,x::r=>if d.writeE i=0 then wrs (d.write i (u8s x).toArray) (i+1) r else (d.write i (u8s x).toArray,false)
def Kr(d:De.D)(i:Int)(X:List (List Int)):De.D×Bool:=if (wrs d i X).2=true then ((wrs d i X).1.flush,decide ((wrs d i X).1.flushE=0)) else ((wrs d i X).1,false)
theorem YK(d:De.D)(i:Int)(s:Array Value):(d.write i s).S.length=d.S.length:=by
 unfold De.D.write;split
 · split <;> rfl
 · rfl
theorem write_T(d:De.D)(i:Int)(s:Array Value):(d.write i s).T≤d.T+1:=by
 unfold De.D.write;split
 · split <;> simp
 · simp
theorem write_L(d:De.D)(i:Int)(s:Array Value):(d.write i s).L.length≤d.L.length+1:=by
 unfold De.D.write;split
 · split <;> simp
 · simp
theorem Jbt(S:List (Array Value))(L:List (Nat×Array Value)):(De.app S L).length=S.length:=by
 unfold De.app
 induction L generalizing S with
 | nil=>rfl
 | cons p r ih=>rw [List.foldl_cons,ih]; simp
theorem ZZ(d:De.D):d.flush.S.length=d.S.length:=by
 unfold De.D.flush;split
 · rfl
 · exact Jbt _ _
theorem writeE_or(d:De.D)(i:Int)(h:d.has i=true):d.writeE i=0∨d.writeE i=12:=by
 unfold De.D.writeE;rw [if_pos h];split
 · exact .inr rfl
 · exact .inl rfl
theorem flushE_or(d:De.D):d.flushE=0∨d.flushE=12:=by
 unfold De.D.flushE;split
 · exact .inr rfl
 · exact .inl rfl
theorem Jf4{x:List Int}(h:Sc x):De.Sec (u8s x).toArray:=⟨by simp [h.length],fun v hv=>by
 simp at hv
 obtain⟨m,-,rfl⟩:=hv
 exact⟨m,rfl⟩⟩
theorem Only.then{F G:Nat→Prop}{a b c:World}(h:Only F a b)(k:Only G b c)(hG:∀j,G j→F j∨a.heap.size≤j):Only F a c :=
 ⟨k.os.trans h.os,k.tape.trans h.tape,k.output.trans h.output,Nat.le_trans h.size k.size,fun i hi hs=>(k.block i (Nat.lt_of_lt_of_le hi h.size) fun hg=>(hG i hg).elim hs fun h2=>by omega).trans (h.block i hi hs)⟩
theorem SecsAt.onlyF{F:Nat→Prop}{w w':World}{sv:Value}{X:List (List Int)}(h:SecsAt w sv X)(ho:Only F w w')(hn:∀b o n c,sv=.slice (some ⟨b,o,none⟩) n c→¬F b):SecsAt w' sv X:=by
 obtain⟨a,cap,e,hcap,hc⟩:=h;refine⟨a,cap,e,hcap,fun i x hx=>?_⟩;obtain⟨h1,g,o,h3,h4⟩:=hc i x hx;refine⟨h1,g,o,h3,fun j hj=>?_⟩;rw [←h4 j hj];simp only [World.cell?,ho.block g (block_lt_of_cell (h4 j hj)) (hn g o _ _ (by rw [e,h3]))]
structure Wst (W w wr:World) (jb b:Nat) (F Fk:Nat→Prop) (d dk:De.D) (g:Pl.Gm) (a:Ja) (fv sv:Value) (X:List (List Int)) (first:Int) (k:Nat):Prop where
 jn:Jn W wr jb b Fk dk g a fv
 sec:SecsAt wr sv X
 on:Only F w wr
 nw:∀j,Fk j→F j∨w.heap.size≤j
 S:dk.S.length=d.S.length
 T:dk.T≤d.T+k
 L:dk.L.length≤d.L.length+k
 eq:wrs d first X=wrs dk (first+k) (X.drop k)
section
variable {W w wr w':World} {jb b:Nat} {F Fk F':Nat→Prop} {d dk d':De.D} {g:Pl.Gm} {a:Ja} {fv sv:Value} {X:List (List Int)} {first:Int} {k:Nat}
theorem Wst.below(h:Wst W w wr jb b F Fk d dk g a fv sv X first k)(hb:Below wr.heap.size wr w'):Wst W w w' jb b F Fk d dk g a fv sv X first k :=
 ⟨h.jn.below hb,h.sec.below hb,h.on.then (Only.of_below (S:=fun _=>False) hb) (fun _ h=>h.elim),h.nw,h.S,h.T,h.L,h.eq⟩
theorem Wst.far(h:Wst W w wr jb b F Fk d dk g a fv sv X first k)(hap:∀b o n c,sv=.slice (some ⟨b,o,none⟩) n c→¬F b∧b<w.heap.size):∀b o n c,sv=.slice (some ⟨b,o,none⟩) n c→¬Fk b:=fun b' o n c e hF=>by
 obtain⟨h1,h2⟩:=hap b' o n c e;rcases h.nw b' hF with h3 | h3
 · exact h1 h3
 · omega
theorem Wst.next(h:Wst W w wr jb b F Fk d dk g a fv sv X first k)(hap:∀b o n c,sv=.slice (some ⟨b,o,none⟩) n c→¬F b∧b<w.heap.size){x:List Int}(hx:X[k]? = some x)(he:dk.writeE (first+k)=0)(hd:De.Dv W w' b F' (dk.write (first+k) (u8s x).toArray))(ho:Only Fk wr w')(hn:∀j,F' j→Fk j∨wr.heap.size≤j):Wst W w w' jb b F F' d (dk.write (first+k) (u8s x).toArray) g a fv sv X first (k+1):=by
 refine⟨h.jn.dev hd ho hn (YK _ _ _),h.sec.onlyF ho (h.far hap),h.on.then ho h.nw,fun j hj=>?_,by rw [YK,h.S],?_,?_,?_⟩
 · rcases hn j hj with h1 | h1
   · exact h.nw j h1
   · exact .inr (Nat.le_trans h.on.size h1)
 · have:=write_T dk (first+k) (u8s x).toArray; have:=h.T; omega
 · have:=write_L dk (first+k) (u8s x).toArray; have:=h.L; omega
 · rw [h.eq,List.drop_eq_getElem_cons (List.getElem?_eq_some_iff.1 hx).1,(List.getElem?_eq_some_iff.1 hx).2];simp only [wrs];rw [if_pos he,Int.add_assoc];rfl
end
def Jhg(w:World)(ok:Bool)(v:Value):Prop:=(ok=true∧v=.nilIface)∨(ok=false∧Fault w 12 v)
section
variable {W w:World} {jb b:Nat} {F:Nat→Prop} {d:De.D} {g:Pl.Gm} {a:Ja} {fv:Value}
theorem J0u(h:Jn W w jb b F d g a fv)(hV:Vars W)(f:Nat)(X:List (List Int))(sv:Value)(hs:SecsAt w sv X)(hap:∀b o n c,sv=.slice (some ⟨b,o,none⟩) n c→¬F b∧b<w.heap.size)(hr:f+X.length≤d.S.length)(hS:d.S.length≤1024)(hT:d.T+X.length≤900000)(hL:d.L.length+X.length≤900000):Calls Tryz.prog 78 #[.pointer (some ⟨jb,0,none⟩),.int .i64 f,sv] w fun e w'=>∃v F',e=.returned v∧Jhg w' (Kr d f X).2 v∧Jn W w' jb b F' (Kr d f X).1 g a fv∧Only F w w'∧∀k,F' k→F k∨w.heap.size≤k:=by
 have HV:=Zh hV;have HAP:=Zh hap;have HW0:Hid (Wst W w w jb b F F d d g a fv sv X f 0):=Zh ⟨h,hs,Only.refl _ _,fun j hj=>.inl hj,rfl,Nat.le_refl _,Nat.le_refl _,by simp⟩;have HC:=Zh hs;obtain⟨sa,sc,hsv,hcap,-⟩:=hs;obtain⟨m,hm⟩:∃m,X.length=m:=⟨_,rfl⟩
 rw [hm] at hsv hcap hr hT hL;subst hsv;have HM:=Zh hm;have HN:Hid (f+m≤d.S.length∧d.S.length≤1024∧d.T+m≤900000∧d.L.length+m≤900000):=Zh ⟨hr,hS,hT,hL⟩;have hm1:m≤1024:=by omega
 have HF1:Hid (f+m≤1024):=Zh (by omega);clear h hV hap hm hr hS hT hL;go_enter Tryz.func78,Tryz.ntmps78
 go_wp2_with fail
 go_loopg [12] m (fun q i wr=>∃k Fk dk,m-k≤q∧k≤m∧i=.int .i64 ((k:Nat):Int)∧Wst W w wr jb b F Fk d dk g a fv (.slice sa m sc) X f k)
 case atStart=>exact⟨0,F,d,by omega,by omega,rfl,HW0.out⟩
 case round =>
  obtain⟨k,Fk,dk,hq,hk,rfl,hst⟩:=hrel;have HW:=Zh hst;clear hst;have HH:Hid (k<m→dk.has ((f:Int)+(k:Int))=true):=Zh fun hkn=>by
   have:=HW.out.S;have:=HN.out;unfold De.D.has;simp only [Bool.and_eq_true,decide_eq_true_eq];omega
  have HTT:Hid (dk.T≤1000000):=Zh (by have:=HW.out.T; have:=HN.out; omega);have HLL:Hid (dk.L.length≤1000000):=Zh (by have:=HW.out.L; have:=HN.out; omega)
  by_cases hkn:k<m
  · have gk:decide ((k:Int)<(m:Int))=true:=decide_eq_true (by omega);have hk0:(k:Int)<(m:Int):=by omega
    have gw:Hid (IntKind.i64.wrap ((f:Int)+(k:Int))=(f:Int)+(k:Int)):=Zh (JR (by have:=HF1.out; omega) (by have:=HF1.out; omega));obtain⟨x,hx⟩:∃x,X[k]? = some x:=⟨_,List.getElem?_eq_getElem (by have:=HM.out; omega)⟩
    obtain⟨g0,o0,c0,hsa,-,-,hat⟩:=HW.sec.has (by have:=HM.out; omega);have hsa2:sa=some ⟨g0,o0,none⟩:=by injection hsa
    subst hsa2;obtain⟨hxs,hxa⟩:=hat k x hx;have HX:=Zh hx;have HXS:=Zh (Jf4 hxs);have HXL:=Zh hxs.length;have HXA:=Zh hxa;clear hx hxs hxa hat hsa;go_upto_region 3 with fail;refine Zl ?_;refine tk (.int .i64 k) ?_;refine tk (.pointer (some ⟨g0,o0+k*64,none⟩)) ?_;refine Q6 HXA.out (by rw [J2,HXL.out]) rfl rfl ?_;refine nm ?_;refine J4 Ka rfl ?_;intro wA hA hb hl;refine nm ?_;refine tk (.int .i64 k) ?_;refine J3 (cs:=(u8s x).toArray) hA (by simp [zeros,HXL.out]) (by rw [J2,HXL.out]; exact info36) (Ji _) rfl rfl rfl ?_;intro wB hD hO hlD;refine nm ?_;have HW1:=Zh (HW.below (hb.trans (hO.below hb.size fun k hk=>Nat.le_of_eq hk.symm)));have HUB:Hid (Blk wB wr.heap.size (u8s x)):=Zh hD;have HUF:Hid (¬Fk wr.heap.size):=Zh fun hF=>by have:=(HW.jn.dv.lt _ hF).2; omega
    generalize wr.heap.size=u at *;clear hA hb hl hD hO hlD;rcases writeE_or dk _ (HH.out hkn) with he | he
    · have HE:=Zh he;go_upto_region 4 with fail;refine J8 (fun wq=>Only Fk wB wq) (by kernel_rfl) ?_;have HSd:Hid (Only Fk wB wB.drew):=Zh (Only.refl _ _).drew;refine th 0 17 (.pointer (some ⟨jb,0,none⟩)) HSd.out ?_;refine th 1 18 (.pointer (some ⟨jb,0,none⟩)) HSd.out ?_;refine th 2 19 (.pointer (some ⟨jb,0,none⟩)) HSd.out ?_;refine th 3 20 (.pointer (some ⟨b,0,none⟩)) HSd.out ?_ (hy:=fun wq hS=>by have q:=(HW1.jn.blk.only hS HW1.jn.nF).cell (i:=0) rfl; go_simp);refine th 4 21 (.int .i64 f) HSd.out ?_;refine th 5 22 (.int .i64 k) HSd.out ?_;refine th 6 23 (.int .i64 ((f:Int)+(k:Int))) HSd.out ?_ (hy:=fun wq hS=>by have q:=gw.out; go_simp);refine Jj 7 (some 24) (.agg ((u8s x).toArray)) rfl rfl (by kernel_rfl) (by kernel_rfl) (by kernel_rfl) (fun _ _ _ h=>h) rfl (fun wq hS=>exec_load_at wq _ _ 36 _ rfl (u) (0) rfl ((u8s x).toArray) _ Tryz.underlying36 rfl (by rw [J2,HXL.out]; exact info36) (Blk.all (cs:=(u8s x).toArray) (HUB.only hS HUF.out) rfl)) HSd.out ?_;refine nm ?_;refine Zo 8 fun K hK=>?_;go_simp;refine (De.Xh (HW1.jn.dv.drew) HTT.out HLL.out ((f:Int)+(k:Int)) _ HXS.out).mono ?_;rintro e w4 ⟨F',rfl,hdv,hon,hnw⟩;rw [he];have HS4:Hid (Only Fk wB w4):=Zh (HSd.then hon (fun j hj=>.inl hj));have HW4:=Zh (HW1.below (Below.refl _ _).drew);have HW5:=Zh (HW4.next HAP.out HX.out HE.out hdv hon hnw);refine hK _ _ HS4.out ?_;clear hK K hdv hon hnw he;refine nm ?_;refine th 9 9 (.int .i64 0) HS4.out ?_;refine Zd ?_
      go_wp2_with fail
      go_roundg (m-(k+1))
      case measure=>omega
      case rel=>exact⟨k+1,F',_,by omega,by omega,by go_num,HW5.out⟩
    · have HE:=Zh he;go_upto_region 4 with fail;refine J8 (fun wq=>Only Fk wB wq) (by kernel_rfl) ?_;have HSd:Hid (Only Fk wB wB.drew):=Zh (Only.refl _ _).drew;refine th 0 17 (.pointer (some ⟨jb,0,none⟩)) HSd.out ?_;refine th 1 18 (.pointer (some ⟨jb,0,none⟩)) HSd.out ?_;refine th 2 19 (.pointer (some ⟨jb,0,none⟩)) HSd.out ?_;refine th 3 20 (.pointer (some ⟨b,0,none⟩)) HSd.out ?_ (hy:=fun wq hS=>by have q:=(HW1.jn.blk.only hS HW1.jn.nF).cell (i:=0) rfl; go_simp);refine th 4 21 (.int .i64 f) HSd.out ?_;refine th 5 22 (.int .i64 k) HSd.out ?_;refine th 6 23 (.int .i64 ((f:Int)+(k:Int))) HSd.out ?_ (hy:=fun wq hS=>by have q:=gw.out; go_simp);refine Jj 7 (some 24) (.agg ((u8s x).toArray)) rfl rfl (by kernel_rfl) (by kernel_rfl) (by kernel_rfl) (fun _ _ _ h=>h) rfl (fun wq hS=>exec_load_at wq _ _ 36 _ rfl (u) (0) rfl ((u8s x).toArray) _ Tryz.underlying36 rfl (by rw [J2,HXL.out]; exact info36) (Blk.all (cs:=(u8s x).toArray) (HUB.only hS HUF.out) rfl)) HSd.out ?_;refine nm ?_;refine Zo 8 fun K hK=>?_;go_simp;refine (De.Xh (HW1.jn.dv.drew) HTT.out HLL.out ((f:Int)+(k:Int)) _ HXS.out).mono ?_;rintro e w4 ⟨F',rfl,hdv,hon,hnw⟩;rw [he];have HS4:Hid (Only Fk wB w4):=Zh (HSd.then hon (fun j hj=>.inl hj));have HW4:=Zh (HW1.below (Below.refl _ _).drew);have HJ4:=Zh (HW4.jn.dev hdv hon hnw (YK _ _ _));have HO4:=Zh (HW4.on.then hon HW4.nw);have HN4:Hid (∀j,F' j→F j∨w.heap.size≤j):=Zh fun j hj=>by
       rcases hnw j hj with h1 | h1
       · exact HW4.nw j h1
       · exact .inr (Nat.le_trans HW4.on.size h1)
      have HRES:Hid (Kr d f X=(dk.write ((f:Int)+(k:Int)) (u8s x).toArray,false)):=Zh (by
       have e1:wrs d f X=(dk.write ((f:Int)+(k:Int)) (u8s x).toArray,false):=by
        rw [HW.eq,List.drop_eq_getElem_cons (List.getElem?_eq_some_iff.1 HX.out).1,(List.getElem?_eq_some_iff.1 HX.out).2]
        simp only [wrs]
        rw [if_neg (by rw [HE.out]; decide)]
       unfold Kr
       rw [e1]
       rfl)
      refine hK _ _ HS4.out ?_;clear hK K hdv hon hnw he;refine nm ?_;refine th 9 9 (.int .i64 12) HS4.out ?_;refine Zd ?_;go_upto_region 6 with fail;refine Zl ?_;refine tk (.int .i64 12) ?_;refine J0 rfl fun K hK=>?_;go_simp;refine (QC 12 rfl _ _).mono ?_;rintro e w5 ⟨v,rfl,hf,hb⟩;have HJ5:=Zh (HJ4.below hb);have HO5:=Zh (HO4.then (Only.of_below (S:=fun _=>False) hb) (fun _ h=>h.elim));have HF5:=Zh hf;obtain⟨T,dd,hv⟩:=hf.shape;subst hv;clear hf hb;refine hK _ _ (nm ?_);clear hK K;refine tk (.int .i64 f) ?_;refine tk (.int .i64 k) ?_;refine tk (.int .i64 ((f+k:Nat):Int)) ?_ (hr:=by have q:=gw.out; go_simp);refine J0 rfl fun K hK=>?_;go_simp;refine (itoa_any (f+k) (by have:=HF1.out; omega) _ (Vars.below (Nat.le_refl _) HJ5.dv.2 HV.out)).mono ?_;rintro e w6 ⟨s,rfl,hs,hb⟩;have HJ6:=Zh (HJ5.below hb);have HO6:=Zh (HO5.then (Only.of_below (S:=fun _=>False) hb) (fun _ h=>h.elim));have HF6:=Zh (HF5.below hb);clear hb;refine hK _ _ (nm ?_);clear hK K;refine tk (.string (⟨#[115,101,99,116,111,114,32]⟩++s)) ?_ (hr:=by go_simp; omega);refine J0 rfl fun K hK=>?_;go_simp;refine (Xd 12 _ _ _ HF6.out).mono ?_;rintro e w7 ⟨v2,rfl,hf,hb⟩;have HJ7:=Zh (HJ6.below hb);have HO7:=Zh (HO6.then (Only.of_below (S:=fun _=>False) hb) (fun _ h=>h.elim));have HF7:=Zh hf;obtain⟨T2,dd2,hv⟩:=hf.shape;subst hv;clear hf hb;refine hK _ _ (nm ?_);clear hK K;refine tk (.iface T2 dd2) ?_;go_wp2_with fail
      go_ret;exact⟨_,F',rfl,.inr ⟨by rw [HRES.out],HF7.out⟩,by rw [HRES.out]; exact HJ7.out,HO7.out,HN4.out⟩
  · have hkm:m=k:=by omega
    subst hkm;have gk:decide ((m:Int)<(m:Int))=false:=decide_eq_false (by omega);have gk2:¬(m:Int)<(m:Int):=by omega
    have HRES:Hid (Kr d f X=(dk.flush,decide (dk.flushE=0))):=Zh (by
     have e1:wrs d f X=(dk,true):=by
      rw [HW.eq,List.drop_eq_nil_of_le (Nat.le_of_eq HM.out)]
      rfl
     unfold Kr
     rw [e1]
     rfl)
    go_upto_region 8 with fail;refine Zl ?_;refine tk (.pointer (some ⟨jb,0,none⟩)) ?_;refine tk (.pointer (some ⟨jb,0,none⟩)) ?_;refine tk (.pointer (some ⟨jb,0,none⟩)) ?_;refine tk (.pointer (some ⟨b,0,none⟩)) ?_ (hr:=by have q:=HW.jn.blk.cell (i:=0) rfl; go_simp);rcases flushE_or dk with he | he
    · have HE:=Zh he;refine J0 rfl fun K hK=>?_;go_simp;refine (De.kw HW.jn.dv HTT.out HLL.out).mono ?_;rintro e w4 ⟨F',rfl,hdv,hon,hnw⟩;rw [he];have HJ4:=Zh (HW.jn.dev hdv hon hnw (ZZ _));have HO4:=Zh (HW.on.then hon HW.nw);have HN4:Hid (∀j,F' j→F j∨w.heap.size≤j):=Zh fun j hj=>by
       rcases hnw j hj with h1 | h1
       · exact HW.nw j h1
       · exact .inr (Nat.le_trans HW.on.size h1)
      clear hdv hon hnw he;refine hK _ _ (nm ?_);clear hK K;refine J0 rfl fun K hK=>?_;go_simp;refine (Jev _ _).mono ?_;rintro e w5 ⟨rfl,rfl⟩;refine hK _ _ (nm ?_);clear hK K;refine tk (.nilIface) ?_;go_wp2_with fail
      go_ret;exact⟨_,rfl,.inl ⟨by rw [HRES.out]; exact decide_eq_true HE.out,rfl⟩,F',by rw [HRES.out]; exact HJ4.out,HO4.out,HN4.out⟩
    · have HE:=Zh he;refine J0 rfl fun K hK=>?_;go_simp;refine (De.kw HW.jn.dv HTT.out HLL.out).mono ?_;rintro e w4 ⟨F',rfl,hdv,hon,hnw⟩;rw [he];have HJ4:=Zh (HW.jn.dev hdv hon hnw (ZZ _));have HO4:=Zh (HW.on.then hon HW.nw);have HN4:Hid (∀j,F' j→F j∨w.heap.size≤j):=Zh fun j hj=>by
       rcases hnw j hj with h1 | h1
       · exact HW.nw j h1
       · exact .inr (Nat.le_trans HW.on.size h1)
      clear hdv hon hnw he;refine hK _ _ (nm ?_);clear hK K;refine J0 rfl fun K hK=>?_;go_simp;refine (QC 12 rfl _ _).mono ?_;rintro e w5 ⟨v,rfl,hf,hb⟩;have HJ5:=Zh (HJ4.below hb);have HO5:=Zh (HO4.then (Only.of_below (S:=fun _=>False) hb) (fun _ h=>h.elim));have HF5:=Zh hf;obtain⟨T,dd,hv⟩:=hf.shape;subst hv;clear hf hb;refine hK _ _ (nm ?_);clear hK K;refine tk (.iface T dd) ?_;go_wp2_with fail
      go_ret;exact⟨_,rfl,.inr ⟨by rw [HRES.out]; exact decide_eq_false (by rw [HE.out]; decide),HF5.out⟩,F',by rw [HRES.out]; exact HJ5.out,HO5.out,HN4.out⟩
end
open Go.RowKit
def XE(f x:Int):Int:=if 0≤x then f+x else 0
def pls(f:Int)(l:List Int)(k:Nat):List Int:=(l.take k).map (XE f)++List.replicate (l.length-k) 0
theorem yQ(f:Int)(l:List Int):pls f l 0=List.replicate l.length 0:=by simp [pls]
theorem J2o(f:Int)(l:List Int):pls f l l.length=l.map (XE f):=by simp [pls]
theorem ZD(f:Int)(l:List Int)(k:Nat)(hk:k≤l.length):(pls f l k).length=l.length:=by
 simp only [pls,List.length_append,List.length_map,List.length_take,List.length_replicate];omega
theorem ky(f:Int)(l:List Int)(k:Nat)(hk:k<l.length):(pls f l k)[k]? = some 0:=by
 have e:((l.take k).map (XE f)).length=k:=by simp only [List.length_map,List.length_take]; omega
 rw [pls,List.getElem?_append_right (by omega),e,Nat.sub_self,List.getElem?_replicate,if_pos (by omega)]
theorem xr(f:Int)(l:List Int)(k:Nat)(hk:k<l.length):(pls f l k).set k 0=pls f l k:=by
 refine List.ext_getElem? fun i=>?_;rw [List.getElem?_set];split
 · rename_i h
   subst h;rw [if_pos (by rw [ZD f l k (by omega)]; exact hk),ky f l k hk]
 · rfl
theorem kz(f:Int)(l:List Int)(k:Nat)(x:Int)(hx:l[k]? = some x):pls f l (k+1)=(pls f l k).set k (XE f x):=by
 obtain⟨hk,hx2⟩:=List.getElem?_eq_some_iff.1 hx;have e:((l.take k).map (XE f)).length=k:=by simp only [List.length_map,List.length_take]; omega
 rw [pls,pls,List.set_append_right _ _ (by omega),e,Nat.sub_self,List.take_add_one,hx,show l.length-k=(l.length-(k+1))+1 by omega,List.replicate_succ];simp
theorem J2p(f:Int)(l:List Int)(k:Nat)(x:Int)(hx:l[k]? = some x)(h:¬0≤x):pls f l (k+1)=pls f l k:=by
 rw [kz f l k x hx,XE,if_neg h,xr f l k (List.getElem?_eq_some_iff.1 hx).1]
theorem J8b(l:List Int)(k:Nat)(v:Int):(Jq l).set k (.int .i64 v)=Jq (l.set k v):=by simp [Jq,List.map_set]
section
variable {W w:World}
structure Pst (w wr:World) (r:Nat) (l:List Int):Prop where
 blk:Blk wr r (Jq l)
 own:OwnN wr w.heap.size (.slice (some ⟨r,0,none⟩) l.length l.length) l
 bel:Below w.heap.size w wr
theorem Pst.set{w wr:World}{r:Nat}{l:List Int}(h:Pst w wr r l)(hr:w.heap.size≤r)(k:Nat)(v:Int)(hk:k<l.length):Pst w (wr.setCell ⟨r,k,none⟩ (.int .i64 v)) r (l.set k v) :=
 ⟨by rw [←J8b]; exact h.blk.set k _,by have:=h.own.set k v hk; rwa [List.length_set],h.bel.trans (J2c (Below.refl _ _) hr h.bel.size)⟩
theorem J0v(f:Int)(l:List Int)(sv:Value)(w:World)(hi:IntsAt w sv l)(hl:l.length≤1000)(hf:0≤f∧f≤2000)(hx:∀x∈l,-1≤x∧x≤2000):Calls Tryz.prog 80 #[.int .i64 f,sv] w fun e w'=>∃v,e=.returned v∧OwnN w' w.heap.size v (l.map (XE f))∧Below w.heap.size w w':=by
 have HI:=Zh hi;have HX:=Zh hx;have HF:=Zh hf;obtain⟨sa,sc,hsv,-⟩:=hi;obtain⟨m,hm⟩:∃m,l.length=m:=⟨_,rfl⟩
 rw [hm] at hsv hl;subst hsv;have HM:=Zh hm;have HP0:Hid (Pst w (w.alloc (.cells (madeCells #[.int .i64 0] m) 3)) w.heap.size (pls f l 0)):=Zh (by
  have e:madeCells #[Value.int .i64 0] m=(Jq (List.replicate m 0)).toArray:=by
   apply Array.ext'
   rw [toList_madeCells_one]
   simp [Jq]
  rw [yQ,hm,e]
  exact⟨Blk.new w _ 3,by have:=OwnN.lit w w.heap.size (Nat.le_refl _) (List.replicate m 0) (by simp; omega) _ rfl; exact this,(Below.refl _ _).alloc (Nat.le_refl _) _⟩)
 have mk:=De.J0o m (by omega);clear hx hf hm;go_enter Tryz.func80,Tryz.ntmps80
 go_wp2_with fail
 generalize w.alloc (.cells (madeCells #[.int .i64 0] m) 3)=w1 at *
 go_loopg [13] m (fun q i wr=>∃k:Nat,m-k≤q∧k≤m∧i=.int .i64 k∧Pst w wr w.heap.size (pls f l k))
 case atStart=>exact⟨0,by omega,by omega,rfl,HP0.out⟩
 case round =>
  obtain⟨k,hq,hk,rfl,hst⟩:=hrel;have HP:=Zh hst;clear hst
  by_cases hkm:k<m
  · have gk:decide ((k:Int)<(m:Int))=true:=decide_eq_true (by omega);have hk0:(k:Int)<(m:Int):=by omega
    obtain⟨x,hx⟩:∃x,l[k]? = some x:=⟨_,List.getElem?_eq_getElem (by have:=HM.out; omega)⟩
    have HXX:=Zh hx;have HXB:=Zh (HX.out x (List.mem_of_getElem? hx));obtain⟨g0,o0,c0,hsa,hat⟩:=HI.has (by have:=HM.out; omega);have hsa2:sa=some ⟨g0,o0,none⟩:=by injection hsa
    subst hsa2;have cx:=(HP.bel.cell (block_lt_of_cell (hat k x hx))).trans (hat k x hx);have HKL:Hid (k<l.length):=Zh (by have:=HM.out; omega);have HZ:Hid (wr.cell? ⟨w.heap.size,k,none⟩=some (.int .i64 0)):=Zh (HP.blk.cell (by rw [List.getElem?_map,ky f l k HKL.out]; rfl));have HP1:Hid (Pst w (wr.setCell ⟨w.heap.size,k,none⟩ (.int .i64 0)) w.heap.size (pls f l k)):=Zh (by
     have:=HP.set (Nat.le_refl _) k 0 (by rw [ZD f l k (Nat.le_of_lt HKL.out)]; exact HKL.out)
     rwa [xr f l k HKL.out] at this)
    clear hx hat hsa;go_upto_region 5 with fail;refine Zl ?_;refine tk (.slice (some ⟨w.heap.size,0,none⟩) m m) ?_;refine tk (.int .i64 k) ?_;refine tk (.pointer (some ⟨w.heap.size,k,none⟩)) ?_;refine Xr (wr.setCell ⟨w.heap.size,k,none⟩ (.int .i64 0)) rfl (by have q:=HZ.out; have fz:=HP.blk.frozen k; go_simp) ?_;have HZ1:Hid ((wr.setCell ⟨w.heap.size,k,none⟩ (.int .i64 0)).cell? ⟨w.heap.size,k,none⟩=some (.int .i64 0)):=Zh (HP1.blk.cell (by rw [List.getElem?_map,ky f l k HKL.out]; rfl));generalize wr.setCell ⟨w.heap.size,k,none⟩ (.int .i64 0)=wS at *;refine nm ?_;refine Zn ?_
    by_cases hx0:0≤x
    · have gx:decide (0≤x)=true:=decide_eq_true hx0;have HP2:Hid (Pst w (wS.setCell ⟨w.heap.size,k,none⟩ (.int .i64 (f+x))) w.heap.size (pls f l (k+1))):=Zh (by
       have:=HP1.set (Nat.le_refl _) k (f+x) (by rw [ZD f l k (Nat.le_of_lt HKL.out)]; exact HKL.out)
       rw [kz f l k x HXX.out,XE,if_pos hx0]
       exact this)
      have gw:Hid (IntKind.i64.wrap (f+x)=f+x):=Zh (JR (by have:=HF.out; omega) (by have:=HF.out; have:=HXB.out; omega));go_upto_region 7 with fail;refine Zl ?_;refine tk (.slice (some ⟨w.heap.size,0,none⟩) m m) ?_;refine tk (.int .i64 k) ?_;refine tk (.int .i64 f) ?_;refine tk (.int .i64 x) ?_;refine tk (.int .i64 (f+x)) ?_ (hr:=by have q:=gw.out; go_simp);refine tk (.pointer (some ⟨w.heap.size,k,none⟩)) ?_;refine Xr (wS.setCell ⟨w.heap.size,k,none⟩ (.int .i64 (f+x))) rfl (by have q:=HZ1.out; have fz:=HP1.blk.frozen k; go_simp) ?_;generalize wS.setCell ⟨w.heap.size,k,none⟩ (.int .i64 (f+x))=wT at *;refine nm ?_;go_wp2_with fail
      go_roundg (m-(k+1))
      case measure=>omega
      case rel=>exact⟨k+1,by omega,by omega,by go_num,HP2.out⟩
    · have gx:decide (0≤x)=false:=decide_eq_false hx0;have HP2:Hid (Pst w wS w.heap.size (pls f l (k+1))):=Zh (by
       rw [J2p f l k x HXX.out hx0]
       exact HP1.out)
      clear HXX HXB
      go_wp2_with fail
      go_roundg (m-(k+1))
      case measure=>omega
      case rel=>exact⟨k+1,by omega,by omega,by go_num,HP2.out⟩
  · have hk2:k=l.length:=by have:=HM.out; omega
    have gk:decide ((k:Int)<(m:Int))=false:=decide_eq_false (by omega);have HR:Hid (Pst w wr w.heap.size (l.map (XE f))):=Zh (by rw [←J2o f l,←hk2]; exact HP.out);clear hk2
    go_wp2_with fail
    go_ret;refine⟨_,rfl,?_,HR.bel⟩;have:=HR.own;rw [List.length_map,HM.out] at this;exact this
end
open Go.RowKit
variable {F:Nat→Prop} {c i k n:Nat} {l:List Int} {sv:Value} {w w':World}
theorem Qs(n:Int)(l:List It):(Jd n l).2.length=l.length:=by
 rw [Jd,ke,List.take_of_length_le (km _)]
theorem Jbu{p:List It}{x:It}(h:p[i]? = some x):∃v:Int,(XL c p)[i]? = some v∧(x.has=false→v=-1)∧(x.has=true→(c:Int)≤v∧v<c+Jy (marks p)):=by
 induction p generalizing c i with
 | nil=>simp at h
 | cons y r ih =>
  have hb:Jy (marks (y::r))=(if y.has then 1 else 0)+Jy (marks r):=rfl;cases i with
  | zero =>
   simp only [List.getElem?_cons_zero,Option.some.injEq] at h;subst h;unfold XL;cases k:y.has
   · exact⟨-1,rfl,fun _=>rfl,fun h=>by cases h⟩
   · refine⟨c,rfl,fun h=>(by cases h),fun _=>⟨Int.le_refl _,?_⟩⟩;rw [hb,k];simp;omega
  | succ i =>
   simp only [List.getElem?_cons_succ] at h;unfold XL;cases k:y.has
   · obtain⟨v,h1,h2,h3⟩:=ih (c:=c) h;refine⟨v,by simpa using h1,h2,fun hh=>?_⟩;rw [hb,k];simpa using h3 hh
   · obtain⟨v,h1,h2,h3⟩:=ih (c:=c+1) h;refine⟨v,by simpa using h1,h2,fun hh=>?_⟩;have:=h3 hh;rw [hb,k];simp only [if_true];omega
theorem J4j{n:Int}{l:List It}{x:It}(h:(l.take (24*k))[i]? = some x):∃v:Int,(Jt n l k).2[i]? = some v∧(x.has=false→v=-1)∧(x.has=true→1≤v∧v<(Jt n l k).1.length):=by
 induction k with
 | zero=>simp at h
 | succ k ih =>
  have hl:=KU n l k;have h2:(Jt n l (k+1)).2=(Jt n l k).2++XL ((Jt n l k).1.length+1) (Q7 l k):=by
   rw [Jt,X8,X9];simp
  rw [Xa] at h;have hlen:=ke n l k
  by_cases hi:i<(l.take (24*k)).length
  · rw [List.getElem?_append_left hi] at h;obtain⟨v,a,b,c⟩:=ih h;refine⟨v,by rw [h2,List.getElem?_append_left (by omega)]; exact a,b,fun hh=>?_⟩;have:=c hh;rw [hl,List.length_append];omega
  · rw [List.getElem?_append_right (by omega)] at h;obtain⟨v,a,b,c⟩:=Jbu (c:=(Jt n l k).1.length+1) h;refine⟨v,by rw [h2,List.getElem?_append_right (by omega),hlen]; exact a,b,fun hh=>?_⟩;have:=c hh;rw [hl,List.length_append,XC];omega
theorem J8c{n:Int}{l:List It}{x:It}(h:l[i]? = some x):∃v:Int,(Jd n l).2[i]? = some v∧(x.has=false→v=-1)∧(x.has=true→1≤v∧v<(Jd n l).1.length):=J4j (by rw [List.take_of_length_le (km _)]; exact h)
theorem yR{n:Int}{l:List It}{x:Int}(h:x∈(Jd n l).2):-1≤x∧x<(Jd n l).1.length:=by
 obtain⟨i,hi⟩:=List.getElem?_of_mem h;have hil:=(List.getElem?_eq_some_iff.1 hi).1;rw [Qs] at hil;obtain⟨v,h1,h2,h3⟩:=J8c (n:=n) (List.getElem?_eq_getElem hil);rw [hi] at h1;cases h1;cases hh:(l[i]).has
 · have:=h2 hh;omega
 · have:=h3 hh;omega
theorem J8d{l:List It}(h:JE l=true)(n:Int):1≤(Jd n l).1.length:=by
 rw [QM];have:=Qf h;omega
theorem Yq{g:Pl.Gm}{seg f:Int}{r:List Int}(h:KP g seg (f::r)=true):Xu g f=true∧KP g f r=true:=by
 have h0:=QD h 0 (by simp);unfold okAt at h0;simp only [Bool.and_eq_true] at h0;have hstep:∀i,i+1<(f::r).length→(f::r).getD i 0<(f::r).getD (i+1) 0:=fun i hi=>by
  have h1:=QD h (i+1) hi;unfold okAt at h1;simp only [Bool.and_eq_true,Bool.or_eq_true,decide_eq_true_eq] at h1;have h2:=h1.2;rw [show i+1-1=i from rfl] at h2;omega
 have hlow:∀i,i<r.length→f<r.getD i 0:=fun i=>by
  induction i with
  | zero =>
   intro hi;have:=hstep 0 (by simp; omega);simpa using this
  | succ i ih =>
   intro hi;have h1:=ih (by omega);have h2:=hstep (i+1) (by simp; omega);simp only [List.getD_cons_succ] at h2;omega
 refine⟨by simpa using h0.1.1,kr fun i hi=>?_⟩;have h1:=QD h (i+1) (by simp; omega);have h3:=hlow i hi;unfold okAt at h1 ⊢;simp only [List.getD_cons_succ,Bool.and_eq_true,Bool.or_eq_true,decide_eq_true_eq,Bool.not_eq_true',decide_eq_false_iff_not] at h1 ⊢;refine⟨⟨h1.1.1,by omega⟩,?_⟩;cases i with
 | zero=>exact .inl rfl
 | succ i =>
  have:=hstep (i+1) (by simp; omega);simp only [List.getD_cons_succ] at this;exact .inr (by simpa using this)
theorem J2q{g:Pl.Gm}{a:Ja}(h1:g.Ok)(h2:Xu g a.seg=true)(h3:0≤a.off)(h4:a.off≤g.l)(h5:KP g a.seg a.free=true):a.good g=true:=by
 unfold Ja.good;simp only [Bool.and_eq_true,decide_eq_true_eq];exact⟨⟨⟨⟨h1,h2⟩,h3⟩,h4⟩,h5⟩
structure Nx (g:Pl.Gm) (a a1:Ja) (n:Nat):Prop where
 seq:a1.seq=a.seq
 seg:0≤a1.seg∧a1.seg<g.s
 off:0≤a1.off∧a1.off+n≤g.l
 free:KP g a1.seg a1.free=true
 ok:g.Ok
theorem kA{g:Pl.Gm}{a a1:Ja}(h:a.good g=true)(hn:(n:Int)≤g.l)(e:QN g a n=some a1):Nx g a a1 n:=by
 obtain⟨h1,h2,h3,h4,h5⟩:=Ja.good_parts h;unfold QN at e;split at e
 · injection e with e
   subst e;exact⟨rfl,h2,⟨h3,by omega⟩,h5,h1⟩
 · split at e
   · cases e
   · rename_i f r hf
     injection e with e
     subst e;rw [hf] at h5;obtain⟨k1,k2⟩:=Yq h5;refine⟨rfl,?_,⟨Int.le_refl _,by simpa using hn⟩,k2,h1⟩;unfold Xu at k1;simpa using k1
theorem Nx.good{g:Pl.Gm}{a a1:Ja}(h:Nx g a a1 n)(s:Int):(⟨a1.seg,a1.off+n,s,a1.free⟩:Ja).good g=true :=
 J2q h.ok (by unfold Xu; simpa using h.seg) (by have:=h.off; show 0≤a1.off+(n:Int); omega) h.off.2 h.free
def J7(g:Pl.Gm)(a:Ja):Int:=4+a.seg*g.l+a.off
theorem Nx.first{g:Pl.Gm}{a a1:Ja}(h:Nx g a a1 n):∃f:Nat,J7 g a1=(f:Int)∧4≤f∧((f+n:Nat):Int)≤4+g.s*g.l:=by
 have h0:0≤a1.seg*g.l:=Int.mul_nonneg h.seg.1 (by have:=h.off; omega);have h1:a1.seg*g.l≤(g.s-1)*g.l:=Int.mul_le_mul_of_nonneg_right (by have:=h.seg; omega) (by have:=h.off; omega);rw [Int.sub_mul,Int.one_mul] at h1;have:=h.off;refine⟨(J7 g a1).toNat,?_,?_,?_⟩
 · unfold J7; omega
 · unfold J7; omega
 · unfold J7; push_cast; omega
theorem Jbv(d:De.D)(i:Int)(X:List (List Int)):(wrs d i X).1.S.length=d.S.length∧(wrs d i X).1.T≤d.T+X.length∧(wrs d i X).1.L.length≤d.L.length+X.length:=by
 induction X generalizing d i with
 | nil=>exact⟨rfl,Nat.le_refl _,Nat.le_refl _⟩
 | cons x r ih =>
  have h1:=YK d i (u8s x).toArray;have h2:=write_T d i (u8s x).toArray;have h3:=write_L d i (u8s x).toArray;unfold wrs;split
  · obtain⟨k1,k2,k3⟩:=ih (d.write i (u8s x).toArray) (i+1);simp only [List.length_cons];exact⟨k1.trans h1,by omega,by omega⟩
  · simp only [List.length_cons];exact⟨h1,by omega,by omega⟩
theorem Jbw(d:De.D):d.flush.T≤d.T+1∧d.flush.L.length≤d.L.length:=by
 unfold De.D.flush;split <;> simp
theorem J4k(d:De.D)(i:Int)(X:List (List Int)):(Kr d i X).1.S.length=d.S.length∧(Kr d i X).1.T≤d.T+X.length+1∧(Kr d i X).1.L.length≤d.L.length+X.length:=by
 obtain⟨h1,h2,h3⟩:=Jbv d i X;unfold Kr;split
 · have:=ZZ (wrs d i X).1;have:=Jbw (wrs d i X).1;simp only;omega
 · simp only;omega
structure Pr where
 e:Int
 pl:List Int
 a:Ja
 d:De.D
def Kw(g:Pl.Gm)(a:Ja)(d:De.D)(L:List It):Pr :=
 if XX g a L then
  match QN g a (Jd a.seq L).1.length with
  | none=>⟨14,[],a,d⟩
  | some a1 =>
   if (Kr d (J7 g a1) (Jd a.seq L).1).2 then ⟨0,(Jd a.seq L).2.map (XE (J7 g a1)),⟨a1.seg,a1.off+(Jd a.seq L).1.length,(a.seq+Ke L)%M32,a1.free⟩,(Kr d (J7 g a1) (Jd a.seq L).1).1⟩
   else ⟨12,[],a,(Kr d (J7 g a1) (Jd a.seq L).1).1⟩
 else ⟨1,[],a,d⟩
theorem J2r{g:Pl.Gm}{a:Ja}{d:De.D}{L:List It}(h:XX g a L=false):Kw g a d L=⟨1,[],a,d⟩:=by unfold Kw; rw [h]; rfl
theorem qE{g:Pl.Gm}{a:Ja}{d:De.D}{L:List It}(h:XX g a L=true)(hn:QN g a (Jd a.seq L).1.length=none):Kw g a d L=⟨14,[],a,d⟩:=by unfold Kw; rw [if_pos h,hn]
theorem qF{g:Pl.Gm}{a a1:Ja}{d:De.D}{L:List It}(h:XX g a L=true)(hn:QN g a (Jd a.seq L).1.length=some a1)(hw:(Kr d (J7 g a1) (Jd a.seq L).1).2=false):Kw g a d L=⟨12,[],a,(Kr d (J7 g a1) (Jd a.seq L).1).1⟩:=by
 unfold Kw;rw [if_pos h,hn];simp only [hw];rfl
theorem xt{g:Pl.Gm}{a a1:Ja}{d:De.D}{L:List It}(h:XX g a L=true)(hn:QN g a (Jd a.seq L).1.length=some a1)(hw:(Kr d (J7 g a1) (Jd a.seq L).1).2=true) :
 Kw g a d L=⟨0,(Jd a.seq L).2.map (XE (J7 g a1)),⟨a1.seg,a1.off+(Jd a.seq L).1.length,(a.seq+Ke L)%M32,a1.free⟩,(Kr d (J7 g a1) (Jd a.seq L).1).1⟩:=by
 unfold Kw;rw [if_pos h,hn];simp only [hw];rfl
theorem XY{g:Pl.Gm}{a:Ja}{L:List It}(h:XX g a L=true):JE L=true∧((Jd a.seq L).1.length:Int)≤g.l:=by
 unfold XX at h;simpa using h
theorem BytesAt.onlyF(h:BytesAt w sv l)(ho:Only F w w')(hn:∀b o n c,sv=.slice (some ⟨b,o,none⟩) n c→¬F b):BytesAt w' sv l:=by
 obtain⟨a,cap,e,hc⟩:=h;refine⟨a,cap,e,fun i x hx=>?_⟩;obtain⟨b,o,e2,hx2⟩:=hc i x hx;refine⟨b,o,e2,?_⟩;rw [←hx2];simp only [World.cell?,ho.block b (block_lt_of_cell hx2) (hn b o _ _ (by rw [e,e2]))]
theorem IntsAt.onlyF(h:IntsAt w sv l)(ho:Only F w w')(hn:∀b o n c,sv=.slice (some ⟨b,o,none⟩) n c→¬F b):IntsAt w' sv l:=by
 obtain⟨a,cap,e,hc⟩:=h;refine⟨a,cap,e,fun i x hx=>?_⟩;obtain⟨b,o,e2,hx2⟩:=hc i x hx;refine⟨b,o,e2,?_⟩;rw [←hx2];simp only [World.cell?,ho.block b (block_lt_of_cell hx2) (hn b o _ _ (by rw [e,e2]))]
theorem ItemsAt.onlyF{l:List (It×Value)}(h:ItemsAt w sv l)(ho:Only F w w')(hn:∀b o n c,sv=.slice (some ⟨b,o,none⟩) n c→¬F b)(hx:∀x∈l,∀b o n c,x.2=.slice (some ⟨b,o,none⟩) n c→¬F b):ItemsAt w' sv l:=by
 obtain⟨a,cap,e,hcap,hc⟩:=h;refine⟨a,cap,e,hcap,fun i x hi=>?_⟩;obtain⟨h1,h2,g,o,h3,h4⟩:=hc i x hi;refine⟨h1,h2.onlyF ho (hx x (List.mem_of_getElem? hi)),g,o,h3,fun j hj=>?_⟩;rw [←h4 j hj];simp only [World.cell?,ho.block g (block_lt_of_cell (h4 j hj)) (hn g o _ _ (by rw [e,h3]))]
end Go.Proofs.YtdbfmikeaoaebaaGreatDoor
