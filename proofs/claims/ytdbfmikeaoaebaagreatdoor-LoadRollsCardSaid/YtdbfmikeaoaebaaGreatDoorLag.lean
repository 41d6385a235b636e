/- Steps. -/
import Derived.Test.YtdbfmikeaoaebaaGreatDoorLaf
set_option linter.unusedSimpArgs false
set_option linter.unusedVariables false
set_option maxRecDepth 100000
set_option maxHeartbeats 4000000
namespace Go.Proofs.YtdbfmikeaoaebaaGreatDoor
open Go.RowKit
variable {cap g n:Nat} {v:Value} {w w':World}
theorem Only.cellZ(ho:Only (fun k=>k=g) w w'){a:Addr}(hne:a.block≠g)(hx:w.cell? a=some v):w'.cell? a=some v:=by
 have hb:=ho.block a.block (Kw hx) hne;rw [←hx];simp only [World.cell?,hb]
theorem Chain.onlyZ{n:Int}(ho:Only (fun k=>k=g) w w')(hg:∀t,w.cell? ⟨g,0,none⟩≠some (.string t)):∀{ts:List ByteArray} {v:Value},Chain w n ts v→Chain w' n ts v
 | [],_,h=>h
 | _::_,_,⟨a,u,h1,h2,h3,h4,h5⟩=>by
  have hne:a≠g:=by
   rintro rfl;exact hg _ h2
  exact⟨a,u,h1,Only.cellZ ho (a:=⟨a,0,none⟩) hne h2,Only.cellZ ho (a:=⟨a,1,none⟩) hne h3,Only.cellZ ho (a:=⟨a,2,none⟩) hne h4,Chain.onlyZ ho hg h5⟩
theorem Fault.onlyZ{n:Int}(h:Fault w n v)(ho:Only (fun k=>k=g) w w'){x:Int}{l:List Value}(hb:Blk w g (.int .i64 x::l)):Fault w' n v:=by
 obtain⟨T,d,t,ts,e,hc⟩:=h;refine⟨T,d,t,ts,e,hc.onlyZ ho fun q hq=>?_⟩;rw [hb.cell (i:=0) rfl] at hq;cases hq
section
variable {W w:World} {jb b:Nat} {F:Nat→Prop} {d:De.D} {g:Pl.Gm} {a:Ja} {fv:Value}
def XL(g:Pl.Gm)(a:Ja)(L:List It):Bool:=JH L&&decide (((Jd a.seq L).1.length:Int)≤g.l)
theorem Jdx(h:Jn W w jb b F d g a fv)(l:List (It×Value))(L:List It)(hL:l.map (·.1)=L)(sv:Value)(hlen:l.length<100000)(hi:ItemsAt w sv l)(hno:XL g a L=false):Calls Tryz.prog 75 #[.pointer (some ⟨jb,0,none⟩),sv] w fun e w'=>∃v,e=.returned (.tuple #[.slice none 0 0,.slice none 0 0,v])∧Fault w' 1 v∧Below w.heap.size w w':=by
 have HLA:=Zh (xd l L hL a.seq h.seq sv hlen w hi);have HNF:=Zh fun s w=>QM 1 rfl s w;have HJ:=Zh h;obtain⟨c0,c1,c2,c3,c4,c5,c6,c7,c8⟩:=h.cells;obtain⟨sa,sc,hsv⟩:=Qa hi;obtain⟨m,hm⟩:∃m,l.length=m:=⟨_,rfl⟩
 rw [hm] at hsv;subst hsv;cases hmb:JH L
 · rw [hmb] at HLA;clear h hL hlen hi hno hm hmb;go_enter Tryz.func75,Tryz.ntmps75
   go_wp2_with fail
   refine HLA.mono ?_;rintro e w1 ⟨s7,s8,rfl,ht⟩;have HB:=Zh ht.b;obtain⟨a7,c7',hv7,-⟩:=ht.s.len;obtain⟨a8,c8',hv8⟩:=ht.a.ints.form;subst hv7;subst hv8;clear ht c0 c1 c2 c3 c4 c5 c6 c7 c8
   go_wp2_with fail
   refine (HNF.out _ _).mono ?_;rintro e w2 ⟨v,rfl,hf,hb⟩;have HF:=Zh hf;have HB2:=Zh (Jk HB.out hb);obtain⟨T,dd,hv⟩:=hf.shape;subst hv;clear hf hb
   go_wp2_with fail
   first|go_ret3|go_ret2|go_ret
   exact⟨_,rfl,HF.out,HB2.out⟩
 · rw [hmb] at HLA;have hlt:g.l<((Jd a.seq L).1.length:Int):=by
    unfold XL at hno;rw [hmb,Bool.true_and,decide_eq_false_iff_not] at hno;omega
   have HLR:Hid (J1h a.seq L=Jd a.seq L):=Zh (by unfold J1h;rw [hmb];rfl);rw [HLR.out] at HLA;obtain⟨N,hN⟩:∃N,(Jd a.seq L).1.length=N:=⟨_,rfl⟩
   rw [hN] at hlt;have HNN:=Zh hN;clear h hL hlen hi hno hm hmb hN;go_enter Tryz.func75,Tryz.ntmps75
   go_wp2_with fail
   refine HLA.mono ?_;rintro e w1 ⟨s7,s8,rfl,ht⟩;have HB:=Zh ht.b;have HJ1:=Zh (HJ.below ht.b);obtain⟨a7,c7',hv7,-⟩:=ht.s.len;obtain⟨a8,c8',hv8⟩:=ht.a.ints.form;rw [HNN.out] at hv7;subst hv7;subst hv8;clear ht c0 c1 c2 c3 c4 c5 c6 c7 c8;have dl:decide (g.l<(N:Int))=true:=decide_eq_true hlt;obtain⟨c0,c1,c2,c3,c4,c5,c6,c7,c8⟩:=HJ1.cells
   go_wp2_with fail
   refine (HNF.out _ _).mono ?_;rintro e w2 ⟨v,rfl,hf,hb⟩;have HF:=Zh hf;have HB2:=Zh (Jk HB.out hb);obtain⟨T,dd,hv⟩:=hf.shape;subst hv;clear hf hb
   go_wp2_with fail
   first|go_ret3|go_ret2|go_ret
   exact⟨_,rfl,HF.out,HB2.out⟩
theorem zJ(h:Jn W w jb b F d g a fv)(l:List (It×Value))(L:List It)(hL:l.map (·.1)=L)(sv:Value)(hlen:l.length<100000)(hi:ItemsAt w sv l)(hyes:XL g a L=true):Calls Tryz.prog 75 #[.pointer (some ⟨jb,0,none⟩),sv] w fun e w'=>∃s7 s8,e=.returned (.tuple #[s7,s8,.nilIface])∧Two w w' s7 s8 (Jd a.seq L):=by
 have hyy:JH L=true∧((Jd a.seq L).1.length:Int)≤g.l:=by
  unfold XL at hyes;simpa using hyes
 have HLA:=Zh (xd l L hL a.seq h.seq sv hlen w hi);have HJ:=Zh h;obtain⟨c0,c1,c2,c3,c4,c5,c6,c7,c8⟩:=h.cells;obtain⟨sa,sc,hsv⟩:=Qa hi;obtain⟨m,hm⟩:∃m,l.length=m:=⟨_,rfl⟩
 rw [hm] at hsv;subst hsv;obtain⟨hmb,hle⟩:=hyy;rw [hmb] at HLA;have HLR:Hid (J1h a.seq L=Jd a.seq L):=Zh (by unfold J1h;rw [hmb];rfl);rw [HLR.out] at HLA;obtain⟨N,hN⟩:∃N,(Jd a.seq L).1.length=N:=⟨_,rfl⟩
 rw [hN] at hle;have HNN:=Zh hN;clear h hL hlen hi hyes hm hmb hN;go_enter Tryz.func75,Tryz.ntmps75
 go_wp2_with fail
 refine HLA.mono ?_;rintro e w1 ⟨s7,s8,rfl,ht⟩;have HT:=Zh ht;have HJ1:=Zh (HJ.below ht.b);obtain⟨a7,c7',hv7,-⟩:=ht.s.len;obtain⟨a8,c8',hv8⟩:=ht.a.ints.form;rw [HNN.out] at hv7;subst hv7;subst hv8;clear ht c0 c1 c2 c3 c4 c5 c6 c7 c8;have dl:decide (g.l<(N:Int))=false:=decide_eq_false (by omega);obtain⟨c0,c1,c2,c3,c4,c5,c6,c7,c8⟩:=HJ1.cells
 go_wp2_with fail
 first|go_ret3|go_ret2|go_ret
 exact⟨_,_,rfl,HT.out⟩
def QE(g:Pl.Gm)(a:Ja)(n:Nat):Option Ja:=if (n:Int)≤g.l-a.off then some a else match a.free with
 | []=>none
 | f::r=>some ⟨f,0,a.seq,r⟩
theorem Jhe:Tryz.prog.underlying 41=some (.slice (Tryz.prog.elem 41))∧Tryz.prog.elem 41=3:=⟨by kernel_rfl,by kernel_rfl⟩
theorem Jj9(w:World):(Go.sizeOf 3).run Tryz.prog w=.ok 1 w:=by
 obtain⟨i,hi,hs⟩:=KV J3r;simp [Go.sizeOf,typeInfo,hi,hs]
theorem J24(w:World)(q:Option Addr)(n cap f:Nat)(h1:f≤n):(Instr.sliceAt 41 (.slice q n cap) (some (.int .i64 f)) none none).run Tryz.prog w=.ok (.slice (K5 q f cap 1) (n-f) (cap-f)) w:=by
 rw [run_sliceAt_slice w 41 _ _ _ _ Jhe.1,run_slice_l w 41 q n cap Jhe.1 .i64 f (by omega) (by omega),Jhe.2,Jj9];rfl
theorem XB(w:World)(ev:Operand→Value)(op:Oper)(x y:Operand)(ho:op.op=.slice 41 x (some y) none none)(q:Option Addr)(n cap f:Nat)(hx:ev x=.slice q n cap)(hy:ev y=.int .i64 f)(h1:f≤n):(execOp ev op).run Tryz.prog w=.ok (.value (.slice (K5 q f cap 1) (n-f) (cap-f))) w:=by
 unfold execOp;simp only [ho,hx,hy,Option.map_some,Option.map_none,Sem.run_bind,J24 w q n cap f h1,Result.andThen_ok,Sem.run_pure]
theorem IntsAt.tail{x:Int}{r:List Int}{q:Option Addr}(h:IntsAt w (.slice q n cap) (x::r))(hcap:n≤cap):IntsAt w (.slice (K5 q 1 cap 1) (n-1) (cap-1)) r∧∀b o m c,Value.slice (K5 q 1 cap 1) (n-1) (cap-1)=.slice (some ⟨b,o,none⟩) m c→∃o2,q=some ⟨b,o2,none⟩:=by
 obtain⟨q',c',e,hc⟩:=h;obtain⟨b,o,hq,-⟩:=hc 0 x rfl;injection e with e1 e2 e3
 subst e1;subst hq;simp only [List.length_cons] at e2;refine⟨⟨_,_,by rw [show n-1=r.length by omega],fun i y hy=>?_⟩,fun b' o' m c he=>?_⟩
 · obtain⟨b2,o2,h1,h2⟩:=hc (i+1) y (by simpa using hy);cases h1;have:¬cap=1:=by have:=(Zg hy).1;omega
   refine⟨b,o+1,?_,by rw [show o+1+i=o+(i+1) by omega];exact h2⟩;unfold K5;rw [if_neg this];simp [Addr.add_lit]
 · unfold K5 at he;split at he
   · cases he;exact⟨_,rfl⟩
   · simp only [Option.map_some,Addr.add_lit] at he;injection he with h1 h2 h3
     simp only [Option.some.injEq,Addr.mk.injEq] at h1;exact⟨o,by rw [←h1.1]⟩
structure Room (w':World) (fv fv':Value) (a':Ja):Prop where
 fr:IntsAt w' fv' a'.free
 src:∀b o n c,fv'=.slice (some ⟨b,o,none⟩) n c→∃o2 n2 c2,fv=.slice (some ⟨b,o2,none⟩) n2 c2
 cp:∀q n c,fv'=.slice q n c→n≤c
theorem J69(h:Jn W w jb b F d g a fv)(n:Nat)(hn:(n:Int)≤g.l-a.off):Calls Tryz.prog 76 #[.pointer (some ⟨jb,0,none⟩),.int .i64 n] w fun e w'=>e=.returned (.tuple #[.agg #[.int .i64 a.seg,.int .i64 a.off,.int .u32 a.seq,fv],.nilIface])∧Room w' fv fv a∧Below w.heap.size w w':=by
 have HJ:=Zh h;obtain⟨hgo,-,ho1,ho2,-⟩:=Ja.good_parts h.good;have hg32:=hgo.2.2.1.2;obtain⟨fa,fc,hfv⟩:=h.form;obtain⟨m,hm⟩:∃m,a.free.length=m:=⟨_,rfl⟩
 rw [hm] at hfv;subst hfv;have gw:Hid (IntKind.i64.wrap (g.l-a.off)=g.l-a.off):=Zh (JQ (by omega) (by omega));have dn:decide ((n:Int)≤g.l-a.off)=true:=decide_eq_true hn;clear h hm hn hgo ho1 ho2 hg32;go_enter Tryz.func76,Tryz.ntmps76;go_upto_region 0 with fail;refine Zl ?_;refine J4 Q2 rfl ?_;intro w0 hR hb hl;refine nm ?_;have HR:=Zh hR;have HB:=Zh hb;have HJ0:=Zh (HJ.below hb);have HLT:Hid (w.heap.size<w0.heap.size):=Zh hl;clear hR hb hl;refine tk (.nilIface) ?_;go_upto_region 1 with fail;refine Zl ?_;refine tk (.pointer (some ⟨jb,0,none⟩)) ?_;refine tk (.pointer (some ⟨jb,0,none⟩)) ?_;refine tk (.pointer (some ⟨jb,5,none⟩)) ?_;refine tk (.agg #[.int .i64 a.seg,.int .i64 a.off,.int .u32 a.seq,.slice fa m fc]) ?_ (hr:=by obtain⟨c0,c1,c2,c3,c4,c5,c6,c7,c8⟩:=HJ0.cells;go_simp);refine J4 Q2 rfl ?_;intro w1 hA hb hl;refine nm ?_;refine J3 (cs:=#[.int .i64 a.seg,.int .i64 a.off,.int .u32 a.seq,.slice fa m fc]) hA rfl JG (Kg _ _ _ _ _ _) rfl rfl rfl ?_;intro w2 hD hO hlD;refine nm ?_;have hbb:Below w0.heap.size w0 w2:=hb.trans (hO.below hb.size fun k hk=>Nat.le_of_eq hk.symm);have HV:=Zh hD;have HB2:=Zh (Jk HB.out hbb);have HR2:=Zh (HR.below hbb HR.lt);have HJ2:=Zh (HJ0.below hbb);generalize w0.heap.size=v at *;clear hA hb hl hD hO hlD hbb HJ0 HB HR;go_upto_region 2 with fail
 go_cut [20] from 11 to 20 (fun s wx=>s=.bool true∧Below w2.heap.size w2 wx)
 case first =>
  refine J9 (fun wq=>Below w2.heap.size w2 wq) (by kernel_rfl) ?_;have HSd:Hid (Below w2.heap.size w2 w2.drew):=Zh Zq.drew;refine th 0 11 (.pointer (some ⟨jb,0,none⟩)) HSd.out ?_;refine th 1 12 (.pointer (some ⟨jb,0,none⟩)) HSd.out ?_;refine th 2 13 (.pointer (some ⟨jb,1,none⟩)) HSd.out ?_;refine th 3 14 (.pointer (some ⟨jb,3,none⟩)) HSd.out ?_;refine th 4 15 (.int .i64 g.l) HSd.out ?_ (hy:=fun wq hS=>by obtain⟨c0,c1,c2,c3,c4,c5,c6,c7,c8⟩:=(HJ2.below hS).cells;go_simp);refine th 5 16 (.pointer (some ⟨v,1,none⟩)) HSd.out ?_;refine th 6 17 (.int .i64 a.off) HSd.out ?_ (hy:=fun wq hS=>by have q:=(HV.below hS HV.lt).cell (i:=1) rfl;go_simp);refine th 7 18 (.int .i64 (g.l-a.off)) HSd.out ?_ (hy:=fun wq hS=>by have q:=gw.out;go_simp);refine th 8 19 (.int .i64 n) HSd.out ?_;refine th 9 20 (.bool true) HSd.out ?_;refine Zd ?_
  go_wp2_with fail
  go_meet
  exact⟨rfl,HSd.out⟩
 case rest =>
  obtain⟨rfl,hb⟩:=hcut;have HV3:=Zh (HV.below hb HV.lt);have HR3:=Zh (HR2.below hb HR2.lt);have HB3:=Zh (Jk HB2.out hb);clear hb;go_upto_region 3 with fail;refine Zl ?_;refine tk (.agg #[.int .i64 a.seg,.int .i64 a.off,.int .u32 a.seq,.slice fa m fc]) ?_ (hr:=by have q:=HV3.out;have q0:=q.cell (i:=0) rfl;have q1:=q.cell (i:=1) rfl;have q2:=q.cell (i:=2) rfl;have q3:=q.cell (i:=3) rfl;go_simp);refine J3 (cs:=#[.int .i64 a.seg,.int .i64 a.off,.int .u32 a.seq,.slice fa m fc]) HR3.out rfl JG (Kg _ _ _ _ _ _) rfl rfl rfl ?_;intro w4 hD hO hlD;refine nm ?_;have HD:=Zh hD;have HB4:=Zh (HB3.trans (hO.below HB3.size fun k hk=>Nat.le_of_eq hk.symm));clear hD hO hlD;refine tk (.nilIface) ?_;go_wp2_with fail
  refine bodyPost_ret (v:=.tuple #[.agg #[.int .i64 a.seg,.int .i64 a.off,.int .u32 a.seq,.slice fa m fc],.nilIface]) (De.results_cell_tmp rfl _ _ w.heap.size 0 _ _ _ rfl rfl Tryz.underlying58 rfl JG (HD.all rfl)) rfl ⟨rfl,⟨HJ.fr.below HB4.out,fun b o n c e=>⟨o,n,c,e⟩,HJ.cp⟩,HB4.out⟩
theorem J6a(h:Jn W w jb b F d g a fv)(n:Nat)(hn:¬(n:Int)≤g.l-a.off)(hf:a.free=[]):Calls Tryz.prog 76 #[.pointer (some ⟨jb,0,none⟩),.int .i64 n] w fun e w'=>∃v,e=.returned (.tuple #[.agg #[.int .i64 0,.int .i64 0,.int .u32 0,.slice none 0 0],v])∧Fault w' 14 v∧Below w.heap.size w w':=by
 have HJ:=Zh h;obtain⟨hgo,-,ho1,ho2,-⟩:=Ja.good_parts h.good;have hg32:=hgo.2.2.1.2;obtain⟨fa,fc,hfv⟩:=h.form;obtain⟨m,hm⟩:∃m,a.free.length=m:=⟨_,rfl⟩
 rw [hm] at hfv;have hm0:m=0:=by rw [←hm,hf];rfl
 subst hm0;subst hfv;have gw:Hid (IntKind.i64.wrap (g.l-a.off)=g.l-a.off):=Zh (JQ (by omega) (by omega));have dn:decide ((n:Int)≤g.l-a.off)=false:=decide_eq_false hn;have HNF:=Zh fun s w=>QM 14 rfl s w;clear h hf hm hn hgo ho1 ho2 hg32;go_enter Tryz.func76,Tryz.ntmps76;go_upto_region 0 with fail;refine Zl ?_;refine J4 Q2 rfl ?_;intro w0 hR hb hl;refine nm ?_;have HR:=Zh hR;have HB:=Zh hb;have HJ0:=Zh (HJ.below hb);have HLT:Hid (w.heap.size<w0.heap.size):=Zh hl;clear hR hb hl;refine tk (.nilIface) ?_;go_upto_region 1 with fail;refine Zl ?_;refine tk (.pointer (some ⟨jb,0,none⟩)) ?_;refine tk (.pointer (some ⟨jb,0,none⟩)) ?_;refine tk (.pointer (some ⟨jb,5,none⟩)) ?_;refine tk (.agg #[.int .i64 a.seg,.int .i64 a.off,.int .u32 a.seq,.slice fa 0 fc]) ?_ (hr:=by obtain⟨c0,c1,c2,c3,c4,c5,c6,c7,c8⟩:=HJ0.cells;go_simp);refine J4 Q2 rfl ?_;intro w1 hA hb hl;refine nm ?_;refine J3 (cs:=#[.int .i64 a.seg,.int .i64 a.off,.int .u32 a.seq,.slice fa 0 fc]) hA rfl JG (Kg _ _ _ _ _ _) rfl rfl rfl ?_;intro w2 hD hO hlD;refine nm ?_;have hbb:Below w0.heap.size w0 w2:=hb.trans (hO.below hb.size fun k hk=>Nat.le_of_eq hk.symm);have HV:=Zh hD;have HB2:=Zh (Jk HB.out hbb);have HR2:=Zh (HR.below hbb HR.lt);have HJ2:=Zh (HJ0.below hbb);generalize w0.heap.size=v at *;clear hA hb hl hD hO hlD hbb HJ0 HB HR;go_upto_region 2 with fail
 go_cut [20] from 11 to 20 (fun s wx=>s=.bool false∧Below w2.heap.size w2 wx)
 case first =>
  refine J9 (fun wq=>Below w2.heap.size w2 wq) (by kernel_rfl) ?_;have HSd:Hid (Below w2.heap.size w2 w2.drew):=Zh Zq.drew;refine th 0 11 (.pointer (some ⟨jb,0,none⟩)) HSd.out ?_;refine th 1 12 (.pointer (some ⟨jb,0,none⟩)) HSd.out ?_;refine th 2 13 (.pointer (some ⟨jb,1,none⟩)) HSd.out ?_;refine th 3 14 (.pointer (some ⟨jb,3,none⟩)) HSd.out ?_;refine th 4 15 (.int .i64 g.l) HSd.out ?_ (hy:=fun wq hS=>by obtain⟨c0,c1,c2,c3,c4,c5,c6,c7,c8⟩:=(HJ2.below hS).cells;go_simp);refine th 5 16 (.pointer (some ⟨v,1,none⟩)) HSd.out ?_;refine th 6 17 (.int .i64 a.off) HSd.out ?_ (hy:=fun wq hS=>by have q:=(HV.below hS HV.lt).cell (i:=1) rfl;go_simp);refine th 7 18 (.int .i64 (g.l-a.off)) HSd.out ?_ (hy:=fun wq hS=>by have q:=gw.out;go_simp);refine th 8 19 (.int .i64 n) HSd.out ?_;refine th 9 20 (.bool false) HSd.out ?_;refine Zd ?_
  go_wp2_with fail
  go_meet
  exact⟨rfl,HSd.out⟩
 case rest =>
  obtain⟨rfl,hb⟩:=hcut;have HV3:=Zh (HV.below hb HV.lt);have HR3:=Zh (HR2.below hb HR2.lt);have HB3:=Zh (Jk HB2.out hb);clear hb;have q3:=HV3.cell (i:=3) rfl;go_upto_region 5 with fail;refine Zl ?_;clear q3;refine tk (.agg #[.int .i64 0,.int .i64 0,.int .u32 0,.slice none 0 0]) ?_ (hr:=(J8 _ _ _ _ 58 _ rfl #[] (by simp) _ (run_build _ 58 _ _ zI)));refine J0 rfl fun K hK=>?_;go_simp;refine (HNF.out _ _).mono ?_;rintro e w4 ⟨v2,rfl,hf,hb⟩;have HF4:=Zh hf;have HB4:=Zh (Jk HB3.out hb);have HR4:=Zh (HR3.below hb HR3.lt);obtain⟨T,dd,hv⟩:=hf.shape;subst hv;clear hf hb;refine hK _ _ (nm ?_);clear hK K;refine J3 (cs:=#[.int .i64 0,.int .i64 0,.int .u32 0,.slice none 0 0]) HR4.out rfl JG (Kg _ _ _ _ _ _) rfl rfl rfl ?_;intro w5 hD hO hlD;refine nm ?_;have HD:=Zh hD;have HB5:=Zh (HB4.trans (hO.below HB4.size fun k hk=>Nat.le_of_eq hk.symm));have HF5:=Zh (HF4.onlyZ hO HR4.out);clear hD hO hlD;refine tk (.iface T dd) ?_;go_wp2_with fail
  refine bodyPost_ret (v:=.tuple #[.agg #[.int .i64 0,.int .i64 0,.int .u32 0,.slice none 0 0],.iface T dd]) (De.results_cell_tmp rfl _ _ w.heap.size 0 _ _ _ rfl rfl Tryz.underlying58 rfl JG (HD.all rfl)) rfl ⟨_,rfl,HF5.out,HB5.out⟩
theorem J6b(h:Jn W w jb b F d g a fv)(n:Nat)(hn:¬(n:Int)≤g.l-a.off)(f:Int)(r:List Int)(hf:a.free=f::r):Calls Tryz.prog 76 #[.pointer (some ⟨jb,0,none⟩),.int .i64 n] w fun e w'=>∃fv',e=.returned (.tuple #[.agg #[.int .i64 f,.int .i64 0,.int .u32 a.seq,fv'],.nilIface])∧Room w' fv fv' ⟨f,0,a.seq,r⟩∧Below w.heap.size w w':=by
 have HJ:=Zh h;obtain⟨hgo,-,ho1,ho2,-⟩:=Ja.good_parts h.good;have hg32:=hgo.2.2.1.2;have hfew:=Ja.few h.good;obtain⟨fa,fc,hfv⟩:=h.form;obtain⟨m,hm⟩:∃m,a.free.length=m:=⟨_,rfl⟩
 have hm1:m=r.length+1:=by rw [←hm,hf];rfl
 rw [hm] at hfv hfew;subst hfv;have HCP:=Zh (h.cp _ _ _ rfl);have HT:Hid (∀w',Below w.heap.size w w'→IntsAt w' (.slice (K5 fa 1 fc 1) (m-1) (fc-1)) r∧∀b o m' c,Value.slice (K5 fa 1 fc 1) (m-1) (fc-1)=.slice (some ⟨b,o,none⟩) m' c→∃o2,fa=some ⟨b,o2,none⟩):=Zh (fun w' hb=>(show IntsAt w' (.slice fa m fc) (f::r) from by rw [←hf];exact h.fr.below hb).tail (h.cp _ _ _ rfl));obtain⟨qb,qo,hfa,hq0⟩:∃b o,fa=some ⟨b,o,none⟩∧w.cell? ⟨b,o,none⟩=some (.int .i64 f):=by
  obtain⟨q',c',e,hc⟩:=h.fr;obtain⟨b2,o2,h1,h2⟩:=hc 0 f (by rw [hf];rfl);cases e;exact⟨b2,o2,h1,h2⟩
 subst hfa;have HQ:=Zh hq0;have HQL:=Zh (block_lt_of_cell hq0);have gw:Hid (IntKind.i64.wrap (g.l-a.off)=g.l-a.off):=Zh (JQ (by omega) (by omega));have dn:decide ((n:Int)≤g.l-a.off)=false:=decide_eq_false hn;have hmz:((m:Int) == 0)=false:=by rw [beq_eq_false_iff_ne];omega
 have hmp:(0:Int)<(m:Int):=by omega
 have hmn:1≤m:=by omega
 clear h hf hm hn hgo ho1 ho2 hg32 hq0 hfew hm1;go_enter Tryz.func76,Tryz.ntmps76;go_upto_region 0 with fail;refine Zl ?_;refine J4 Q2 rfl ?_;intro w0 hR hb hl;refine nm ?_;have HR:=Zh hR;have HB:=Zh hb;have HJ0:=Zh (HJ.below hb);have HLT:Hid (w.heap.size<w0.heap.size):=Zh hl;clear hR hb hl;refine tk (.nilIface) ?_;go_upto_region 1 with fail;refine Zl ?_;refine tk (.pointer (some ⟨jb,0,none⟩)) ?_;refine tk (.pointer (some ⟨jb,0,none⟩)) ?_;refine tk (.pointer (some ⟨jb,5,none⟩)) ?_;refine tk (.agg #[.int .i64 a.seg,.int .i64 a.off,.int .u32 a.seq,.slice (some ⟨qb,qo,none⟩) m fc]) ?_ (hr:=by obtain⟨c0,c1,c2,c3,c4,c5,c6,c7,c8⟩:=HJ0.cells;go_simp);refine J4 Q2 rfl ?_;intro w1 hA hb hl;refine nm ?_;refine J3 (cs:=#[.int .i64 a.seg,.int .i64 a.off,.int .u32 a.seq,.slice (some ⟨qb,qo,none⟩) m fc]) hA rfl JG (Kg _ _ _ _ _ _) rfl rfl rfl ?_;intro w2 hD hO hlD;refine nm ?_;have hbb:Below w0.heap.size w0 w2:=hb.trans (hO.below hb.size fun k hk=>Nat.le_of_eq hk.symm);have HV:=Zh hD;have HB2:=Zh (Jk HB.out hbb);have HR2:=Zh (HR.below hbb HR.lt);have HJ2:=Zh (HJ0.below hbb);generalize w0.heap.size=v at *;clear hA hb hl hD hO hlD hbb HJ0 HB HR;go_upto_region 2 with fail
 go_cut [20] from 11 to 20 (fun s wx=>s=.bool false∧Below w2.heap.size w2 wx)
 case first =>
  refine J9 (fun wq=>Below w2.heap.size w2 wq) (by kernel_rfl) ?_;have HSd:Hid (Below w2.heap.size w2 w2.drew):=Zh Zq.drew;refine th 0 11 (.pointer (some ⟨jb,0,none⟩)) HSd.out ?_;refine th 1 12 (.pointer (some ⟨jb,0,none⟩)) HSd.out ?_;refine th 2 13 (.pointer (some ⟨jb,1,none⟩)) HSd.out ?_;refine th 3 14 (.pointer (some ⟨jb,3,none⟩)) HSd.out ?_;refine th 4 15 (.int .i64 g.l) HSd.out ?_ (hy:=fun wq hS=>by obtain⟨c0,c1,c2,c3,c4,c5,c6,c7,c8⟩:=(HJ2.below hS).cells;go_simp);refine th 5 16 (.pointer (some ⟨v,1,none⟩)) HSd.out ?_;refine th 6 17 (.int .i64 a.off) HSd.out ?_ (hy:=fun wq hS=>by have q:=(HV.below hS HV.lt).cell (i:=1) rfl;go_simp);refine th 7 18 (.int .i64 (g.l-a.off)) HSd.out ?_ (hy:=fun wq hS=>by have q:=gw.out;go_simp);refine th 8 19 (.int .i64 n) HSd.out ?_;refine th 9 20 (.bool false) HSd.out ?_;refine Zd ?_
  go_wp2_with fail
  go_meet
  exact⟨rfl,HSd.out⟩
 case rest =>
  obtain⟨rfl,hb⟩:=hcut;have HV3:=Zh (HV.below hb HV.lt);have HR3:=Zh (HR2.below hb HR2.lt);have HB3:=Zh (Jk HB2.out hb);have HVS:Hid (w.heap.size<v):=HLT;clear hb HV HR2 HB2 HJ2;have q3:=HV3.cell (i:=3) rfl;go_upto_region 6 with fail
  go_cut [28] from 29 to 37 (fun s wx=>s=.pointer (some ⟨v,3,none⟩)∧Blk wx v [.int .i64 f,.int .i64 0,.int .u32 a.seq,.slice (K5 (some ⟨qb,qo,none⟩) 1 fc 1) (m-1) (fc-1)]∧Only (fun k=>k=v) wc wx)
  case first =>
   refine J9 (fun wq=>Only (fun k=>k=v) wc wq) (by kernel_rfl) ?_;have HSd:Hid (Only (fun k=>k=v) wc wc.drew):=Zh (Only.refl _ _).drew;have HVd:=Zh HV3.drew;have HQ3:Hid (∀wq,Only (fun k=>k=v) wc wq→wq.cell? ⟨qb,qo,none⟩=some (.int .i64 f)):=Zh fun wq hS=>hS.cellZ (a:=⟨qb,qo,none⟩) (by have h1:qb<w.heap.size:=HQL.out;have h2:w.heap.size<v:=HVS.out;show ¬qb=v;omega) ((HB3.cell (p:=⟨qb,qo,none⟩) HQL.out).trans HQ.out);have HVL:Hid (Only (fun k=>k=v) wc wc.drew):=HSd;generalize wc.drew=wS at *;refine th 0 28 (.pointer (some ⟨v,3,none⟩)) HSd.out ?_;refine th 4 32 (.pointer (some ⟨v,3,none⟩)) HSd.out ?_;refine kO 1 5 (by kernel_rfl) rfl rfl rfl rfl (fun K hK=>?_) (fun K hK=>?_)
   · refine Jf (some 29) rfl (.slice (some ⟨qb,qo,none⟩) m fc) wS (by have hq:=HVd.cell (i:=3) rfl;go_simp) ?_;refine hK _ _ HSd.out (nm ?_);clear hK K;refine th 2 30 (.pointer (some ⟨qb,qo,none⟩)) HSd.out ?_ (hy:=fun wq hS=>by have hm0:¬m=0:=(by omega);have hm1:(0:Int)<(m:Int):=hmp;go_simp);refine th 3 31 (.int .i64 f) HSd.out ?_ (hy:=fun wq hS=>by have q:=HQ3.out wq hS;go_simp);refine Zo 5 fun K hK=>?_;refine Jf (some 33) rfl (.slice (some ⟨qb,qo,none⟩) m fc) wS (by have hq:=HVd.cell (i:=3) rfl;go_simp) ?_;refine hK _ _ HSd.out (nm ?_);clear hK K;refine Jl 6 (some 34) (.slice (K5 (some ⟨qb,qo,none⟩) 1 fc 1) (m-1) (fc-1)) rfl rfl (by kernel_rfl) (by kernel_rfl) (by kernel_rfl) (fun _ _ _ h=>h) rfl (fun wq hS=>XB wq _ _ _ _ rfl (some ⟨qb,qo,none⟩) m fc 1 rfl rfl hmn) HSd.out ?_;refine nm ?_;refine th 7 35 (.pointer (some ⟨v,0,none⟩)) HSd.out ?_;refine Zo 8 fun K hK=>?_;refine JZ none rfl (wS.setCell ⟨v,0,none⟩ (.int .i64 f)) (by have hq:=HVd.cell (i:=0) rfl;have hf:=HVd.frozen 0;go_simp) ?_;have HSe:Hid (Only (fun k=>k=v) wc (wS.setCell ⟨v,0,none⟩ (.int .i64 f))):=Zh (HSd.setCell (p:=⟨v,0,none⟩) (.inl rfl) _);have HVe:=Zh (HVd.set 0 (.int .i64 f));refine hK _ _ HSe.out ?_;clear hK K;generalize wS.setCell ⟨v,0,none⟩ (.int .i64 f)=wT at *;refine nm ?_;refine th 9 36 (.pointer (some ⟨v,1,none⟩)) HSe.out ?_;refine Zo 10 fun K hK=>?_;refine JZ none rfl (wT.setCell ⟨v,1,none⟩ (.int .i64 0)) (by have hq:=HVe.cell (i:=1) rfl;have hf:=HVe.frozen 1;go_simp) ?_;have HSf:Hid (Only (fun k=>k=v) wc (wT.setCell ⟨v,1,none⟩ (.int .i64 0))):=Zh (HSe.setCell (p:=⟨v,1,none⟩) (.inl rfl) _);have HVf:=Zh (HVe.set 1 (.int .i64 0));refine hK _ _ HSf.out ?_;clear hK K;generalize wT.setCell ⟨v,1,none⟩ (.int .i64 0)=wU at *;refine nm ?_;refine th 11 37 (.pointer (some ⟨v,3,none⟩)) HSf.out ?_;refine Zo 12 fun K hK=>?_;refine JZ none rfl (wU.setCell ⟨v,3,none⟩ (.slice (K5 (some ⟨qb,qo,none⟩) 1 fc 1) (m-1) (fc-1))) (by have hq:=HVf.cell (i:=3) rfl;have hf:=HVf.frozen 3;go_simp) ?_;have HSg:Hid (Only (fun k=>k=v) wc (wU.setCell ⟨v,3,none⟩ (.slice (K5 (some ⟨qb,qo,none⟩) 1 fc 1) (m-1) (fc-1)))):=Zh (HSf.setCell (p:=⟨v,3,none⟩) (.inl rfl) _);have HVg:=Zh (HVf.set 3 (.slice (K5 (some ⟨qb,qo,none⟩) 1 fc 1) (m-1) (fc-1)));refine hK _ _ HSg.out ?_;clear hK K;generalize wU.setCell ⟨v,3,none⟩ (.slice (K5 (some ⟨qb,qo,none⟩) 1 fc 1) (m-1) (fc-1))=wV at *;refine nm ?_;refine Zd ?_
     go_wp2_with fail
     go_meet
     exact⟨rfl,HVg.out,HSg.out⟩
   · refine Jf (some 33) rfl (.slice (some ⟨qb,qo,none⟩) m fc) wS (by have hq:=HVd.cell (i:=3) rfl;go_simp) ?_;refine hK _ _ HSd.out (nm ?_);clear hK K;refine Jl 6 (some 34) (.slice (K5 (some ⟨qb,qo,none⟩) 1 fc 1) (m-1) (fc-1)) rfl rfl (by kernel_rfl) (by kernel_rfl) (by kernel_rfl) (fun _ _ _ h=>h) rfl (fun wq hS=>XB wq _ _ _ _ rfl (some ⟨qb,qo,none⟩) m fc 1 rfl rfl hmn) HSd.out ?_;refine nm ?_;refine Zo 1 fun K hK=>?_;refine Jf (some 29) rfl (.slice (some ⟨qb,qo,none⟩) m fc) wS (by have hq:=HVd.cell (i:=3) rfl;go_simp) ?_;refine hK _ _ HSd.out (nm ?_);clear hK K;refine th 2 30 (.pointer (some ⟨qb,qo,none⟩)) HSd.out ?_ (hy:=fun wq hS=>by have hm0:¬m=0:=(by omega);have hm1:(0:Int)<(m:Int):=hmp;go_simp);refine th 3 31 (.int .i64 f) HSd.out ?_ (hy:=fun wq hS=>by have q:=HQ3.out wq hS;go_simp);refine th 7 35 (.pointer (some ⟨v,0,none⟩)) HSd.out ?_;refine Zo 8 fun K hK=>?_;refine JZ none rfl (wS.setCell ⟨v,0,none⟩ (.int .i64 f)) (by have hq:=HVd.cell (i:=0) rfl;have hf:=HVd.frozen 0;go_simp) ?_;have HSe:Hid (Only (fun k=>k=v) wc (wS.setCell ⟨v,0,none⟩ (.int .i64 f))):=Zh (HSd.setCell (p:=⟨v,0,none⟩) (.inl rfl) _);have HVe:=Zh (HVd.set 0 (.int .i64 f));refine hK _ _ HSe.out ?_;clear hK K;generalize wS.setCell ⟨v,0,none⟩ (.int .i64 f)=wT at *;refine nm ?_;refine th 9 36 (.pointer (some ⟨v,1,none⟩)) HSe.out ?_;refine Zo 10 fun K hK=>?_;refine JZ none rfl (wT.setCell ⟨v,1,none⟩ (.int .i64 0)) (by have hq:=HVe.cell (i:=1) rfl;have hf:=HVe.frozen 1;go_simp) ?_;have HSf:Hid (Only (fun k=>k=v) wc (wT.setCell ⟨v,1,none⟩ (.int .i64 0))):=Zh (HSe.setCell (p:=⟨v,1,none⟩) (.inl rfl) _);have HVf:=Zh (HVe.set 1 (.int .i64 0));refine hK _ _ HSf.out ?_;clear hK K;generalize wT.setCell ⟨v,1,none⟩ (.int .i64 0)=wU at *;refine nm ?_;refine th 11 37 (.pointer (some ⟨v,3,none⟩)) HSf.out ?_;refine Zo 12 fun K hK=>?_;refine JZ none rfl (wU.setCell ⟨v,3,none⟩ (.slice (K5 (some ⟨qb,qo,none⟩) 1 fc 1) (m-1) (fc-1))) (by have hq:=HVf.cell (i:=3) rfl;have hf:=HVf.frozen 3;go_simp) ?_;have HSg:Hid (Only (fun k=>k=v) wc (wU.setCell ⟨v,3,none⟩ (.slice (K5 (some ⟨qb,qo,none⟩) 1 fc 1) (m-1) (fc-1)))):=Zh (HSf.setCell (p:=⟨v,3,none⟩) (.inl rfl) _);have HVg:=Zh (HVf.set 3 (.slice (K5 (some ⟨qb,qo,none⟩) 1 fc 1) (m-1) (fc-1)));refine hK _ _ HSg.out ?_;clear hK K;generalize wU.setCell ⟨v,3,none⟩ (.slice (K5 (some ⟨qb,qo,none⟩) 1 fc 1) (m-1) (fc-1))=wV at *;refine nm ?_;refine Zd ?_
     go_wp2_with fail
     go_meet
     exact⟨rfl,HVg.out,HSg.out⟩
  case rest =>
   obtain⟨rfl,hv,ho⟩:=hcut;have HBx:=Zh (HB3.trans (ho.below HB3.size fun k hk=>by have h2:w.heap.size<v:=HVS.out;omega));have HVx:=Zh hv;have HRx:=Zh (HR3.only ho (by have:=HR3.lt;have h2:w.heap.size<v:=HVS.out;omega));clear hv ho;go_upto_region 7 with fail;refine Zl ?_;refine tk (.agg #[.int .i64 f,.int .i64 0,.int .u32 a.seq,.slice (K5 (some ⟨qb,qo,none⟩) 1 fc 1) (m-1) (fc-1)]) ?_ (hr:=by have q:=HVx.out;have q0:=q.cell (i:=0) rfl;have q1:=q.cell (i:=1) rfl;have q2:=q.cell (i:=2) rfl;have q3:=q.cell (i:=3) rfl;go_simp);refine J3 (cs:=#[.int .i64 f,.int .i64 0,.int .u32 a.seq,.slice (K5 (some ⟨qb,qo,none⟩) 1 fc 1) (m-1) (fc-1)]) HRx.out rfl JG (Kg _ _ _ _ _ _) rfl rfl rfl ?_;intro w5 hD hO hlD;refine nm ?_;have HD:=Zh hD;have HB5:=Zh (HBx.trans (hO.below HBx.size fun k hk=>Nat.le_of_eq hk.symm));clear hD hO hlD;refine tk (.nilIface) ?_;go_wp2_with fail
   refine bodyPost_ret (v:=.tuple #[.agg #[.int .i64 f,.int .i64 0,.int .u32 a.seq,.slice (K5 (some ⟨qb,qo,none⟩) 1 fc 1) (m-1) (fc-1)],.nilIface]) (De.results_cell_tmp rfl _ _ w.heap.size 0 _ _ _ rfl rfl Tryz.underlying58 rfl JG (HD.all rfl)) rfl ⟨_,rfl,?_,HB5.out⟩;obtain⟨h1,h2⟩:=HT.out _ HB5.out;exact⟨h1,fun b o n c he=>by
    obtain⟨o2,h3⟩:=h2 b o n c he
    exact⟨o2,m,fc,by rw [h3]⟩,fun q n c he=>by
    have:=HCP.out
    injection he with e1 e2 e3
    omega⟩
end
open De (exec_load_at)
def wrs:De.D→Int→List (List Int)→De.D×Bool
 | d,_,[]=>(d,true)
 | d,i,x::r=>if d.writeE i=0 then wrs (d.write i (u8s x).toArray) (i+1) r else (d.write i (u8s x).toArray,false)
def Kz(d:De.D)(i:Int)(X:List (List Int)):De.D×Bool:=if (wrs d i X).2=true then ((wrs d i X).1.flush,decide ((wrs d i X).1.flushE=0)) else ((wrs d i X).1,false)
theorem YQ(d:De.D)(i:Int)(s:Array Value):(d.write i s).S.length=d.S.length:=by
 unfold De.D.write;split
 · split <;> rfl
 · rfl
theorem write_T(d:De.D)(i:Int)(s:Array Value):(d.write i s).T≤d.T+1:=by
 unfold De.D.write;split
 · split <;> simp
 · simp
theorem write_L(d:De.D)(i:Int)(s:Array Value):(d.write i s).L.length≤d.L.length+1:=by
 unfold De.D.write;split
 · split <;> simp
 · simp
theorem Jdy(S:List (Array Value))(L:List (Nat×Array Value)):(De.app S L).length=S.length:=by
 unfold De.app
 induction L generalizing S with
 | nil=>rfl
 | cons p r ih=>rw [List.foldl_cons,ih];simp
theorem jz(d:De.D):d.flush.S.length=d.S.length:=by
 unfold De.D.flush;split
 · rfl
 · exact Jdy _ _
theorem writeE_or(d:De.D)(i:Int)(h:d.has i=true):d.writeE i=0∨d.writeE i=12:=by
 unfold De.D.writeE;rw [if_pos h];split
 · exact .inr rfl
 · exact .inl rfl
theorem flushE_or(d:De.D):d.flushE=0∨d.flushE=12:=by
 unfold De.D.flushE;split
 · exact .inr rfl
 · exact .inl rfl
theorem Jhf{x:List Int}(h:Sc x):De.Sec (u8s x).toArray:=⟨by simp [h.length],fun v hv=>by
 simp at hv
 obtain⟨m,-,rfl⟩:=hv
 exact⟨m,rfl⟩⟩
theorem Only.then{F G:Nat→Prop}{a b c:World}(h:Only F a b)(k:Only G b c)(hG:∀j,G j→F j∨a.heap.size≤j):Only F a c :=
 ⟨k.os.trans h.os,k.tape.trans h.tape,k.output.trans h.output,Nat.le_trans h.size k.size,fun i hi hs=>(k.block i (Nat.lt_of_lt_of_le hi h.size) fun hg=>(hG i hg).elim hs fun h2=>by omega).trans (h.block i hi hs)⟩
theorem SecsAt.onlyF{F:Nat→Prop}{w w':World}{sv:Value}{X:List (List Int)}(h:SecsAt w sv X)(ho:Only F w w')(hn:∀b o n c,sv=.slice (some ⟨b,o,none⟩) n c→¬F b):SecsAt w' sv X:=by
 obtain⟨a,cap,e,hcap,hc⟩:=h;refine⟨a,cap,e,hcap,fun i x hx=>?_⟩;obtain⟨h1,g,o,h3,h4⟩:=hc i x hx;refine⟨h1,g,o,h3,fun j hj=>?_⟩;rw [←h4 j hj];simp only [World.cell?,ho.block g (block_lt_of_cell (h4 j hj)) (hn g o _ _ (by rw [e,h3]))]
structure Wst (W w wr:World) (jb b:Nat) (F Fk:Nat→Prop) (d dk:De.D) (g:Pl.Gm) (a:Ja) (fv sv:Value) (X:List (List Int)) (first:Int) (k:Nat):Prop where
 jn:Jn W wr jb b Fk dk g a fv
 sec:SecsAt wr sv X
 on:Only F w wr
 nw:∀j,Fk j→F j∨w.heap.size≤j
 S:dk.S.length=d.S.length
 T:dk.T≤d.T+k
 L:dk.L.length≤d.L.length+k
 eq:wrs d first X=wrs dk (first+k) (X.drop k)
section
variable {W w wr w':World} {jb b:Nat} {F Fk F':Nat→Prop} {d dk d':De.D} {g:Pl.Gm} {a:Ja} {fv sv:Value} {X:List (List Int)} {first:Int} {k:Nat}
theorem Wst.below(h:Wst W w wr jb b F Fk d dk g a fv sv X first k)(hb:Below wr.heap.size wr w'):Wst W w w' jb b F Fk d dk g a fv sv X first k :=
 ⟨h.jn.below hb,h.sec.below hb,h.on.then (Only.of_below (S:=fun _=>False) hb) (fun _ h=>h.elim),h.nw,h.S,h.T,h.L,h.eq⟩
theorem Wst.far(h:Wst W w wr jb b F Fk d dk g a fv sv X first k)(hap:∀b o n c,sv=.slice (some ⟨b,o,none⟩) n c→¬F b∧b<w.heap.size):∀b o n c,sv=.slice (some ⟨b,o,none⟩) n c→¬Fk b:=fun b' o n c e hF=>by
 obtain⟨h1,h2⟩:=hap b' o n c e;rcases h.nw b' hF with h3|h3
 · exact h1 h3
 · omega
theorem Wst.next(h:Wst W w wr jb b F Fk d dk g a fv sv X first k)(hap:∀b o n c,sv=.slice (some ⟨b,o,none⟩) n c→¬F b∧b<w.heap.size){x:List Int}(hx:X[k]? = some x)(he:dk.writeE (first+k)=0)(hd:De.Dv W w' b F' (dk.write (first+k) (u8s x).toArray))(ho:Only Fk wr w')(hn:∀j,F' j→Fk j∨wr.heap.size≤j):Wst W w w' jb b F F' d (dk.write (first+k) (u8s x).toArray) g a fv sv X first (k+1):=by
 refine⟨h.jn.dev hd ho hn (YQ _ _ _),h.sec.onlyF ho (h.far hap),h.on.then ho h.nw,fun j hj=>?_,by rw [YQ,h.S],?_,?_,?_⟩
 · rcases hn j hj with h1|h1
   · exact h.nw j h1
   · exact .inr (Nat.le_trans h.on.size h1)
 · have:=write_T dk (first+k) (u8s x).toArray;have:=h.T;omega
 · have:=write_L dk (first+k) (u8s x).toArray;have:=h.L;omega
 · rw [h.eq,List.drop_eq_getElem_cons (Zg hx).1,(Zg hx).2];simp only [wrs];rw [if_pos he,Int.add_assoc];rfl
end
def Jjy(w:World)(ok:Bool)(v:Value):Prop:=(ok=true∧v=.nilIface)∨(ok=false∧Fault w 12 v)
section
variable {W w:World} {jb b:Nat} {F:Nat→Prop} {d:De.D} {g:Pl.Gm} {a:Ja} {fv:Value}
theorem J25(h:Jn W w jb b F d g a fv)(hV:Vars W)(f:Nat)(X:List (List Int))(sv:Value)(hs:SecsAt w sv X)(hap:∀b o n c,sv=.slice (some ⟨b,o,none⟩) n c→¬F b∧b<w.heap.size)(hr:f+X.length≤d.S.length)(hS:d.S.length≤1024)(hT:d.T+X.length≤900000)(hL:d.L.length+X.length≤900000):Calls Tryz.prog 78 #[.pointer (some ⟨jb,0,none⟩),.int .i64 f,sv] w fun e w'=>∃v F',e=.returned v∧Jjy w' (Kz d f X).2 v∧Jn W w' jb b F' (Kz d f X).1 g a fv∧Only F w w'∧∀k,F' k→F k∨w.heap.size≤k:=by
 have HV:=Zh hV;have HAP:=Zh hap;have HW0:Hid (Wst W w w jb b F F d d g a fv sv X f 0):=Zh ⟨h,hs,Only.refl _ _,fun j hj=>.inl hj,rfl,Nat.le_refl _,Nat.le_refl _,by simp⟩;have HC:=Zh hs;obtain⟨sa,sc,hsv,hcap,-⟩:=hs;obtain⟨m,hm⟩:∃m,X.length=m:=⟨_,rfl⟩
 rw [hm] at hsv hcap hr hT hL;subst hsv;have HM:=Zh hm;have HN:Hid (f+m≤d.S.length∧d.S.length≤1024∧d.T+m≤900000∧d.L.length+m≤900000):=Zh ⟨hr,hS,hT,hL⟩;have hm1:m≤1024:=by omega
 have HF1:Hid (f+m≤1024):=Zh (by omega);clear h hV hap hm hr hS hT hL;go_enter Tryz.func78,Tryz.ntmps78
 go_wp2_with fail
 go_loopg [12] m (fun q i wr=>∃k Fk dk,m-k≤q∧k≤m∧i=.int .i64 ((k:Nat):Int)∧Wst W w wr jb b F Fk d dk g a fv (.slice sa m sc) X f k)
 case atStart=>exact⟨0,F,d,by omega,by omega,rfl,HW0.out⟩
 case round =>
  obtain⟨k,Fk,dk,hq,hk,rfl,hst⟩:=hrel;have HW:=Zh hst;clear hst;have HH:Hid (k<m→dk.has ((f:Int)+(k:Int))=true):=Zh fun hkn=>by
   have:=HW.out.S;have:=HN.out;unfold De.D.has;simp only [Bool.and_eq_true,decide_eq_true_eq];omega
  have HTT:Hid (dk.T≤1000000):=Zh (by have:=HW.out.T;have:=HN.out;omega);have HLL:Hid (dk.L.length≤1000000):=Zh (by have:=HW.out.L;have:=HN.out;omega)
  by_cases hkn:k<m
  · have gk:decide ((k:Int)<(m:Int))=true:=decide_eq_true (by omega);have hk0:(k:Int)<(m:Int):=by omega
    have gw:Hid (IntKind.i64.wrap ((f:Int)+(k:Int))=(f:Int)+(k:Int)):=Zh (JQ (by have:=HF1.out;omega) (by have:=HF1.out;omega));obtain⟨x,hx⟩:∃x,X[k]? = some x:=⟨_,List.getElem?_eq_getElem (by have:=HM.out;omega)⟩
    obtain⟨g0,o0,c0,hsa,-,-,hat⟩:=HW.sec.has (by have:=HM.out;omega);have hsa2:sa=some ⟨g0,o0,none⟩:=by injection hsa
    subst hsa2;obtain⟨hxs,hxa⟩:=hat k x hx;have HX:=Zh hx;have HXS:=Zh (Jhf hxs);have HXL:=Zh hxs.length;have HXA:=Zh hxa;clear hx hxs hxa hat hsa;go_upto_region 3 with fail;refine Zl ?_;refine tk (.int .i64 k) ?_;refine tk (.pointer (some ⟨g0,o0+k*64,none⟩)) ?_;refine Qc HXA.out (by rw [J2,HXL.out]) rfl rfl ?_;refine nm ?_;refine J4 Kd rfl ?_;intro wA hA hb hl;refine nm ?_;refine tk (.int .i64 k) ?_;refine J3 (cs:=(u8s x).toArray) hA (by simp [zeros,HXL.out]) (by rw [J2,HXL.out];exact info36) (Jj _) rfl rfl rfl ?_;intro wB hD hO hlD;refine nm ?_;have HW1:=Zh (HW.below (hb.trans (hO.below hb.size fun k hk=>Nat.le_of_eq hk.symm)));have HUB:Hid (Blk wB wr.heap.size (u8s x)):=Zh hD;have HUF:Hid (¬Fk wr.heap.size):=Zh fun hF=>by have:=(HW.jn.dv.lt _ hF).2;omega
    generalize wr.heap.size=u at *;clear hA hb hl hD hO hlD;rcases writeE_or dk _ (HH.out hkn) with he|he
    · have HE:=Zh he;go_upto_region 4 with fail;refine J9 (fun wq=>Only Fk wB wq) (by kernel_rfl) ?_;have HSd:Hid (Only Fk wB wB.drew):=Zh (Only.refl _ _).drew;refine th 0 17 (.pointer (some ⟨jb,0,none⟩)) HSd.out ?_;refine th 1 18 (.pointer (some ⟨jb,0,none⟩)) HSd.out ?_;refine th 2 19 (.pointer (some ⟨jb,0,none⟩)) HSd.out ?_;refine th 3 20 (.pointer (some ⟨b,0,none⟩)) HSd.out ?_ (hy:=fun wq hS=>by have q:=(HW1.jn.blk.only hS HW1.jn.nF).cell (i:=0) rfl;go_simp);refine th 4 21 (.int .i64 f) HSd.out ?_;refine th 5 22 (.int .i64 k) HSd.out ?_;refine th 6 23 (.int .i64 ((f:Int)+(k:Int))) HSd.out ?_ (hy:=fun wq hS=>by have q:=gw.out;go_simp);refine Jl 7 (some 24) (.agg ((u8s x).toArray)) rfl rfl (by kernel_rfl) (by kernel_rfl) (by kernel_rfl) (fun _ _ _ h=>h) rfl (fun wq hS=>exec_load_at wq _ _ 36 _ rfl (u) (0) rfl ((u8s x).toArray) _ Tryz.underlying36 rfl (by rw [J2,HXL.out];exact info36) (Blk.all (cs:=(u8s x).toArray) (HUB.only hS HUF.out) rfl)) HSd.out ?_;refine nm ?_;refine Zo 8 fun K hK=>?_;go_simp;refine (De.Xo (HW1.jn.dv.drew) HTT.out HLL.out ((f:Int)+(k:Int)) _ HXS.out).mono ?_;rintro e w4 ⟨F',rfl,hdv,hon,hnw⟩;rw [he];have HS4:Hid (Only Fk wB w4):=Zh (HSd.then hon (fun j hj=>.inl hj));have HW4:=Zh (HW1.below Zq.drew);have HW5:=Zh (HW4.next HAP.out HX.out HE.out hdv hon hnw);refine hK _ _ HS4.out ?_;clear hK K hdv hon hnw he;refine nm ?_;refine th 9 9 (.int .i64 0) HS4.out ?_;refine Zd ?_
      go_wp2_with fail
      go_roundg (m-(k+1))
      case measure=>omega
      case rel=>exact⟨k+1,F',_,by omega,by omega,by go_num,HW5.out⟩
    · have HE:=Zh he;go_upto_region 4 with fail;refine J9 (fun wq=>Only Fk wB wq) (by kernel_rfl) ?_;have HSd:Hid (Only Fk wB wB.drew):=Zh (Only.refl _ _).drew;refine th 0 17 (.pointer (some ⟨jb,0,none⟩)) HSd.out ?_;refine th 1 18 (.pointer (some ⟨jb,0,none⟩)) HSd.out ?_;refine th 2 19 (.pointer (some ⟨jb,0,none⟩)) HSd.out ?_;refine th 3 20 (.pointer (some ⟨b,0,none⟩)) HSd.out ?_ (hy:=fun wq hS=>by have q:=(HW1.jn.blk.only hS HW1.jn.nF).cell (i:=0) rfl;go_simp);refine th 4 21 (.int .i64 f) HSd.out ?_;refine th 5 22 (.int .i64 k) HSd.out ?_;refine th 6 23 (.int .i64 ((f:Int)+(k:Int))) HSd.out ?_ (hy:=fun wq hS=>by have q:=gw.out;go_simp);refine Jl 7 (some 24) (.agg ((u8s x).toArray)) rfl rfl (by kernel_rfl) (by kernel_rfl) (by kernel_rfl) (fun _ _ _ h=>h) rfl (fun wq hS=>exec_load_at wq _ _ 36 _ rfl (u) (0) rfl ((u8s x).toArray) _ Tryz.underlying36 rfl (by rw [J2,HXL.out];exact info36) (Blk.all (cs:=(u8s x).toArray) (HUB.only hS HUF.out) rfl)) HSd.out ?_;refine nm ?_;refine Zo 8 fun K hK=>?_;go_simp;refine (De.Xo (HW1.jn.dv.drew) HTT.out HLL.out ((f:Int)+(k:Int)) _ HXS.out).mono ?_;rintro e w4 ⟨F',rfl,hdv,hon,hnw⟩;rw [he];have HS4:Hid (Only Fk wB w4):=Zh (HSd.then hon (fun j hj=>.inl hj));have HW4:=Zh (HW1.below Zq.drew);have HJ4:=Zh (HW4.jn.dev hdv hon hnw (YQ _ _ _));have HO4:=Zh (HW4.on.then hon HW4.nw);have HN4:Hid (∀j,F' j→F j∨w.heap.size≤j):=Zh fun j hj=>by
       rcases hnw j hj with h1|h1
       · exact HW4.nw j h1
       · exact .inr (Nat.le_trans HW4.on.size h1)
      have HRES:Hid (Kz d f X=(dk.write ((f:Int)+(k:Int)) (u8s x).toArray,false)):=Zh (by
       have e1:wrs d f X=(dk.write ((f:Int)+(k:Int)) (u8s x).toArray,false):=by
        rw [HW.eq,List.drop_eq_getElem_cons (Zg HX.out).1,(Zg HX.out).2]
        simp only [wrs]
        rw [if_neg (by rw [HE.out];decide)]
       unfold Kz
       rw [e1]
       rfl)
      refine hK _ _ HS4.out ?_;clear hK K hdv hon hnw he;refine nm ?_;refine th 9 9 (.int .i64 12) HS4.out ?_;refine Zd ?_;go_upto_region 6 with fail;refine Zl ?_;refine tk (.int .i64 12) ?_;refine J0 rfl fun K hK=>?_;go_simp;refine (QM 12 rfl _ _).mono ?_;rintro e w5 ⟨v,rfl,hf,hb⟩;have HJ5:=Zh (HJ4.below hb);have HO5:=Zh (HO4.then (Only.of_below (S:=fun _=>False) hb) (fun _ h=>h.elim));have HF5:=Zh hf;obtain⟨T,dd,hv⟩:=hf.shape;subst hv;clear hf hb;refine hK _ _ (nm ?_);clear hK K;refine tk (.int .i64 f) ?_;refine tk (.int .i64 k) ?_;refine tk (.int .i64 ((f+k:Nat):Int)) ?_ (hr:=by have q:=gw.out;go_simp);refine J0 rfl fun K hK=>?_;go_simp;refine (itoa_any (f+k) (by have:=HF1.out;omega) _ (Vars.below Zy HJ5.dv.2 HV.out)).mono ?_;rintro e w6 ⟨s,rfl,hs,hb⟩;have HJ6:=Zh (HJ5.below hb);have HO6:=Zh (HO5.then (Only.of_below (S:=fun _=>False) hb) (fun _ h=>h.elim));have HF6:=Zh (HF5.below hb);clear hb;refine hK _ _ (nm ?_);clear hK K;refine tk (.string (⟨#[115,101,99,116,111,114,32]⟩++s)) ?_ (hr:=by go_simp;omega);refine J0 rfl fun K hK=>?_;go_simp;refine (Xj 12 _ _ _ HF6.out).mono ?_;rintro e w7 ⟨v2,rfl,hf,hb⟩;have HJ7:=Zh (HJ6.below hb);have HO7:=Zh (HO6.then (Only.of_below (S:=fun _=>False) hb) (fun _ h=>h.elim));have HF7:=Zh hf;obtain⟨T2,dd2,hv⟩:=hf.shape;subst hv;clear hf hb;refine hK _ _ (nm ?_);clear hK K;refine tk (.iface T2 dd2) ?_;go_wp2_with fail
      go_ret;exact⟨_,F',rfl,.inr ⟨by rw [HRES.out],HF7.out⟩,by rw [HRES.out];exact HJ7.out,HO7.out,HN4.out⟩
  · have hkm:m=k:=by omega
    subst hkm;have gk:decide ((m:Int)<(m:Int))=false:=decide_eq_false (by omega);have gk2:¬(m:Int)<(m:Int):=by omega
    have HRES:Hid (Kz d f X=(dk.flush,decide (dk.flushE=0))):=Zh (by
     have e1:wrs d f X=(dk,true):=by
      rw [HW.eq,List.drop_eq_nil_of_le (Nat.le_of_eq HM.out)]
      rfl
     unfold Kz
     rw [e1]
     rfl)
    go_upto_region 8 with fail;refine Zl ?_;refine tk (.pointer (some ⟨jb,0,none⟩)) ?_;refine tk (.pointer (some ⟨jb,0,none⟩)) ?_;refine tk (.pointer (some ⟨jb,0,none⟩)) ?_;refine tk (.pointer (some ⟨b,0,none⟩)) ?_ (hr:=by have q:=HW.jn.blk.cell (i:=0) rfl;go_simp);rcases flushE_or dk with he|he
    · have HE:=Zh he;refine J0 rfl fun K hK=>?_;go_simp;refine (De.qj HW.jn.dv HTT.out HLL.out).mono ?_;rintro e w4 ⟨F',rfl,hdv,hon,hnw⟩;rw [he];have HJ4:=Zh (HW.jn.dev hdv hon hnw (jz _));have HO4:=Zh (HW.on.then hon HW.nw);have HN4:Hid (∀j,F' j→F j∨w.heap.size≤j):=Zh fun j hj=>by
       rcases hnw j hj with h1|h1
       · exact HW.nw j h1
       · exact .inr (Nat.le_trans HW.on.size h1)
      clear hdv hon hnw he;refine hK _ _ (nm ?_);clear hK K;refine J0 rfl fun K hK=>?_;go_simp;refine (Jh7 _ _).mono ?_;rintro e w5 ⟨rfl,rfl⟩;refine hK _ _ (nm ?_);clear hK K;refine tk (.nilIface) ?_;go_wp2_with fail
      go_ret;exact⟨_,rfl,.inl ⟨by rw [HRES.out];exact decide_eq_true HE.out,rfl⟩,F',by rw [HRES.out];exact HJ4.out,HO4.out,HN4.out⟩
    · have HE:=Zh he;refine J0 rfl fun K hK=>?_;go_simp;refine (De.qj HW.jn.dv HTT.out HLL.out).mono ?_;rintro e w4 ⟨F',rfl,hdv,hon,hnw⟩;rw [he];have HJ4:=Zh (HW.jn.dev hdv hon hnw (jz _));have HO4:=Zh (HW.on.then hon HW.nw);have HN4:Hid (∀j,F' j→F j∨w.heap.size≤j):=Zh fun j hj=>by
       rcases hnw j hj with h1|h1
       · exact HW.nw j h1
       · exact .inr (Nat.le_trans HW.on.size h1)
      clear hdv hon hnw he;refine hK _ _ (nm ?_);clear hK K;refine J0 rfl fun K hK=>?_;go_simp;refine (QM 12 rfl _ _).mono ?_;rintro e w5 ⟨v,rfl,hf,hb⟩;have HJ5:=Zh (HJ4.below hb);have HO5:=Zh (HO4.then (Only.of_below (S:=fun _=>False) hb) (fun _ h=>h.elim));have HF5:=Zh hf;obtain⟨T,dd,hv⟩:=hf.shape;subst hv;clear hf hb;refine hK _ _ (nm ?_);clear hK K;refine tk (.iface T dd) ?_;go_wp2_with fail
      go_ret;exact⟨_,rfl,.inr ⟨by rw [HRES.out];exact decide_eq_false (by rw [HE.out];decide),HF5.out⟩,F',by rw [HRES.out];exact HJ5.out,HO5.out,HN4.out⟩
end
def Xx(f x:Int):Int:=if 0≤x then f+x else 0
def pls(f:Int)(l:List Int)(k:Nat):List Int:=(l.take k).map (Xx f)++List.replicate (l.length-k) 0
theorem zK(f:Int)(l:List Int):pls f l 0=List.replicate l.length 0:=by simp [pls]
theorem J49(f:Int)(l:List Int):pls f l l.length=l.map (Xx f):=by simp [pls]
theorem ZW(f:Int)(l:List Int)(k:Nat)(hk:k≤l.length):(pls f l k).length=l.length:=by
 simp only [pls,List.length_append,List.length_map,List.length_take,List.length_replicate];omega
theorem ql(f:Int)(l:List Int)(k:Nat)(hk:k<l.length):(pls f l k)[k]? = some 0:=by
 have e:((l.take k).map (Xx f)).length=k:=by simp only [List.length_map,List.length_take];omega
 rw [pls,List.getElem?_append_right (by omega),e,Nat.sub_self,List.getElem?_replicate,if_pos (by omega)]
theorem yb(f:Int)(l:List Int)(k:Nat)(hk:k<l.length):(pls f l k).set k 0=pls f l k:=by
 refine List.ext_getElem? fun i=>?_;rw [List.getElem?_set];split
 · rename_i h
   subst h;rw [if_pos (by rw [ZW f l k (by omega)];exact hk),ql f l k hk]
 · rfl
theorem qm(f:Int)(l:List Int)(k:Nat)(x:Int)(hx:l[k]? = some x):pls f l (k+1)=(pls f l k).set k (Xx f x):=by
 obtain⟨hk,hx2⟩:=List.getElem?_eq_some_iff.1 hx;have e:((l.take k).map (Xx f)).length=k:=by simp only [List.length_map,List.length_take];omega
 rw [pls,pls,List.set_append_right _ _ (by omega),e,Nat.sub_self,List.take_add_one,hx,show l.length-k=(l.length-(k+1))+1 by omega,List.replicate_succ];simp
theorem J4a(f:Int)(l:List Int)(k:Nat)(x:Int)(hx:l[k]? = some x)(h:¬0≤x):pls f l (k+1)=pls f l k:=by
 rw [qm f l k x hx,Xx,if_neg h,yb f l k (Zg hx).1]
theorem Ja6(l:List Int)(k:Nat)(v:Int):(Jq l).set k (.int .i64 v)=Jq (l.set k v):=by simp [Jq,List.map_set]
section
variable {W w:World}
structure Pst (w wr:World) (r:Nat) (l:List Int):Prop where
 blk:Blk wr r (Jq l)
 own:OwnN wr w.heap.size (.slice (some ⟨r,0,none⟩) l.length l.length) l
 bel:Below w.heap.size w wr
theorem Pst.set{w wr:World}{r:Nat}{l:List Int}(h:Pst w wr r l)(hr:w.heap.size≤r)(k:Nat)(v:Int)(hk:k<l.length):Pst w (wr.setCell ⟨r,k,none⟩ (.int .i64 v)) r (l.set k v) :=
 ⟨by rw [←Ja6];exact h.blk.set k _,by have:=h.own.set k v hk;rwa [List.length_set],h.bel.trans (J3x Zq hr h.bel.size)⟩
theorem J26(f:Int)(l:List Int)(sv:Value)(w:World)(hi:IntsAt w sv l)(hl:l.length≤1000)(hf:0≤f∧f≤2000)(hx:∀x∈l,-1≤x∧x≤2000):Calls Tryz.prog 80 #[.int .i64 f,sv] w fun e w'=>∃v,e=.returned v∧OwnN w' w.heap.size v (l.map (Xx f))∧Below w.heap.size w w':=by
 have HI:=Zh hi;have HX:=Zh hx;have HF:=Zh hf;obtain⟨sa,sc,hsv,-⟩:=hi;obtain⟨m,hm⟩:∃m,l.length=m:=⟨_,rfl⟩
 rw [hm] at hsv hl;subst hsv;have HM:=Zh hm;have HP0:Hid (Pst w (w.alloc (.cells (madeCells #[.int .i64 0] m) 3)) w.heap.size (pls f l 0)):=Zh (by
  have e:madeCells #[Value.int .i64 0] m=(Jq (List.replicate m 0)).toArray:=by
   apply Array.ext'
   rw [toList_madeCells_one]
   simp [Jq]
  rw [zK,hm,e]
  exact⟨Blk.new w _ 3,by have:=OwnN.lit w w.heap.size Zy (List.replicate m 0) (by simp;omega) _ rfl;exact this,Zq.alloc Zy _⟩)
 have mk:=De.J1z m (by omega);clear hx hf hm;go_enter Tryz.func80,Tryz.ntmps80
 go_wp2_with fail
 generalize w.alloc (.cells (madeCells #[.int .i64 0] m) 3)=w1 at *
 go_loopg [13] m (fun q i wr=>∃k:Nat,m-k≤q∧k≤m∧i=.int .i64 k∧Pst w wr w.heap.size (pls f l k))
 case atStart=>exact⟨0,by omega,by omega,rfl,HP0.out⟩
 case round =>
  obtain⟨k,hq,hk,rfl,hst⟩:=hrel;have HP:=Zh hst;clear hst
  by_cases hkm:k<m
  · have gk:decide ((k:Int)<(m:Int))=true:=decide_eq_true (by omega);have hk0:(k:Int)<(m:Int):=by omega
    obtain⟨x,hx⟩:∃x,l[k]? = some x:=⟨_,List.getElem?_eq_getElem (by have:=HM.out;omega)⟩
    have HXX:=Zh hx;have HXB:=Zh (HX.out x (List.mem_of_getElem? hx));obtain⟨g0,o0,c0,hsa,hat⟩:=HI.has (by have:=HM.out;omega);have hsa2:sa=some ⟨g0,o0,none⟩:=by injection hsa
    subst hsa2;have cx:=(HP.bel.cell (block_lt_of_cell (hat k x hx))).trans (hat k x hx);have HKL:Hid (k<l.length):=Zh (by have:=HM.out;omega);have HZ:Hid (wr.cell? ⟨w.heap.size,k,none⟩=some (.int .i64 0)):=Zh (HP.blk.cell (by rw [List.getElem?_map,ql f l k HKL.out];rfl));have HP1:Hid (Pst w (wr.setCell ⟨w.heap.size,k,none⟩ (.int .i64 0)) w.heap.size (pls f l k)):=Zh (by
     have:=HP.set Zy k 0 (by rw [ZW f l k (Nat.le_of_lt HKL.out)];exact HKL.out)
     rwa [yb f l k HKL.out] at this)
    clear hx hat hsa;go_upto_region 5 with fail;refine Zl ?_;refine tk (.slice (some ⟨w.heap.size,0,none⟩) m m) ?_;refine tk (.int .i64 k) ?_;refine tk (.pointer (some ⟨w.heap.size,k,none⟩)) ?_;refine Xy (wr.setCell ⟨w.heap.size,k,none⟩ (.int .i64 0)) rfl (by have q:=HZ.out;have fz:=HP.blk.frozen k;go_simp) ?_;have HZ1:Hid ((wr.setCell ⟨w.heap.size,k,none⟩ (.int .i64 0)).cell? ⟨w.heap.size,k,none⟩=some (.int .i64 0)):=Zh (HP1.blk.cell (by rw [List.getElem?_map,ql f l k HKL.out];rfl));generalize wr.setCell ⟨w.heap.size,k,none⟩ (.int .i64 0)=wS at *;refine nm ?_;refine Zn ?_
    by_cases hx0:0≤x
    · have gx:decide (0≤x)=true:=decide_eq_true hx0;have HP2:Hid (Pst w (wS.setCell ⟨w.heap.size,k,none⟩ (.int .i64 (f+x))) w.heap.size (pls f l (k+1))):=Zh (by
       have:=HP1.set Zy k (f+x) (by rw [ZW f l k (Nat.le_of_lt HKL.out)];exact HKL.out)
       rw [qm f l k x HXX.out,Xx,if_pos hx0]
       exact this)
      have gw:Hid (IntKind.i64.wrap (f+x)=f+x):=Zh (JQ (by have:=HF.out;omega) (by have:=HF.out;have:=HXB.out;omega));go_upto_region 7 with fail;refine Zl ?_;refine tk (.slice (some ⟨w.heap.size,0,none⟩) m m) ?_;refine tk (.int .i64 k) ?_;refine tk (.int .i64 f) ?_;refine tk (.int .i64 x) ?_;refine tk (.int .i64 (f+x)) ?_ (hr:=by have q:=gw.out;go_simp);refine tk (.pointer (some ⟨w.heap.size,k,none⟩)) ?_;refine Xy (wS.setCell ⟨w.heap.size,k,none⟩ (.int .i64 (f+x))) rfl (by have q:=HZ1.out;have fz:=HP1.blk.frozen k;go_simp) ?_;generalize wS.setCell ⟨w.heap.size,k,none⟩ (.int .i64 (f+x))=wT at *;refine nm ?_;go_wp2_with fail
      go_roundg (m-(k+1))
      case measure=>omega
      case rel=>exact⟨k+1,by omega,by omega,by go_num,HP2.out⟩
    · have gx:decide (0≤x)=false:=decide_eq_false hx0;have HP2:Hid (Pst w wS w.heap.size (pls f l (k+1))):=Zh (by
       rw [J4a f l k x HXX.out hx0]
       exact HP1.out)
      clear HXX HXB
      go_wp2_with fail
      go_roundg (m-(k+1))
      case measure=>omega
      case rel=>exact⟨k+1,by omega,by omega,by go_num,HP2.out⟩
  · have hk2:k=l.length:=by have:=HM.out;omega
    have gk:decide ((k:Int)<(m:Int))=false:=decide_eq_false (by omega);have HR:Hid (Pst w wr w.heap.size (l.map (Xx f))):=Zh (by rw [←J49 f l,←hk2];exact HP.out);clear hk2
    go_wp2_with fail
    go_ret;refine⟨_,rfl,?_,HR.bel⟩;have:=HR.own;rw [List.length_map,HM.out] at this;exact this
end
variable {F:Nat→Prop} {c i k n:Nat} {l:List Int} {sv:Value} {w w':World}
theorem Qz(n:Int)(l:List It):(Jd n l).2.length=l.length:=by
 rw [Jd,ZJ,List.take_of_length_le (kZ _)]
theorem Jdz{p:List It}{x:It}(h:p[i]? = some x):∃v:Int,(XR c p)[i]? = some v∧(x.has=false→v=-1)∧(x.has=true→(c:Int)≤v∧v<c+JC (marks p)):=by
 induction p generalizing c i with
 | nil=>simp at h
 | cons y r ih =>
  have hb:JC (marks (y::r))=(if y.has then 1 else 0)+JC (marks r):=rfl;cases i with
  | zero =>
   simp only [List.getElem?_cons_zero,Option.some.injEq] at h;subst h;unfold XR;cases k:y.has
   · exact⟨-1,rfl,fun _=>rfl,fun h=>by cases h⟩
   · refine⟨c,rfl,fun h=>(by cases h),fun _=>⟨Int.le_refl _,?_⟩⟩;rw [hb,k];simp;omega
  | succ i =>
   simp only [List.getElem?_cons_succ] at h;unfold XR;cases k:y.has
   · obtain⟨v,h1,h2,h3⟩:=ih (c:=c) h;refine⟨v,by simpa using h1,h2,fun hh=>?_⟩;rw [hb,k];simpa using h3 hh
   · obtain⟨v,h1,h2,h3⟩:=ih (c:=c+1) h;refine⟨v,by simpa using h1,h2,fun hh=>?_⟩;have:=h3 hh;rw [hb,k];simp only [if_true];omega
theorem xo{n:Int}{l:List It}{x:It}(h:(l.take (24*k))[i]? = some x):∃v:Int,(Js n l k).2[i]? = some v∧(x.has=false→v=-1)∧(x.has=true→1≤v∧v<(Js n l k).1.length):=by
 induction k with
 | zero=>simp at h
 | succ k ih =>
  have hl:=Q0 n l k;have h2:(Js n l (k+1)).2=(Js n l k).2++XR ((Js n l k).1.length+1) (Qe l k):=by
   rw [Js,Xe,Xf];simp
  rw [Xg] at h;have hlen:=ZJ n l k
  by_cases hi:i<(l.take (24*k)).length
  · rw [List.getElem?_append_left hi] at h;obtain⟨v,a,b,c⟩:=ih h;refine⟨v,by rw [h2,List.getElem?_append_left (by omega)];exact a,b,fun hh=>?_⟩;have:=c hh;rw [hl,List.length_append];omega
  · rw [List.getElem?_append_right (by omega)] at h;obtain⟨v,a,b,c⟩:=Jdz (c:=(Js n l k).1.length+1) h;refine⟨v,by rw [h2,List.getElem?_append_right (by omega),hlen];exact a,b,fun hh=>?_⟩;have:=c hh;rw [hl,List.length_append,XK];omega
theorem Ja7{n:Int}{l:List It}{x:It}(h:l[i]? = some x):∃v:Int,(Jd n l).2[i]? = some v∧(x.has=false→v=-1)∧(x.has=true→1≤v∧v<(Jd n l).1.length):=xo (by rw [List.take_of_length_le (kZ _)];exact h)
theorem zL{n:Int}{l:List It}{x:Int}(h:x∈(Jd n l).2):-1≤x∧x<(Jd n l).1.length:=by
 obtain⟨i,hi⟩:=List.getElem?_of_mem h;have hil:=(Zg hi).1;rw [Qz] at hil;obtain⟨v,h1,h2,h3⟩:=Ja7 (n:=n) (List.getElem?_eq_getElem hil);rw [hi] at h1;cases h1;cases hh:(l[i]).has
 · have:=h2 hh;omega
 · have:=h3 hh;omega
theorem Ja8{l:List It}(h:JH l=true)(n:Int):1≤(Jd n l).1.length:=by
 rw [Qq];have:=Qo h;omega
theorem Yz{g:Pl.Gm}{seg f:Int}{r:List Int}(h:KF g seg (f::r)=true):Xk g f=true∧KF g f r=true:=by
 have h0:=QN h 0 (by simp);unfold okAt at h0;simp only [Bool.and_eq_true] at h0;have hstep:∀i,i+1<(f::r).length→(f::r).getD i 0<(f::r).getD (i+1) 0:=fun i hi=>by
  have h1:=QN h (i+1) hi;unfold okAt at h1;simp only [Bool.and_eq_true,Bool.or_eq_true,decide_eq_true_eq] at h1;have h2:=h1.2;rw [show i+1-1=i from rfl] at h2;omega
 have hlow:∀i,i<r.length→f<r.getD i 0:=fun i=>by
  induction i with
  | zero =>
   intro hi;have:=hstep 0 (by simp;omega);simpa using this
  | succ i ih =>
   intro hi;have h1:=ih (by omega);have h2:=hstep (i+1) (by simp;omega);simp only [List.getD_cons_succ] at h2;omega
 refine⟨by simpa using h0.1.1,qe fun i hi=>?_⟩;have h1:=QN h (i+1) (by simp;omega);have h3:=hlow i hi;unfold okAt at h1 ⊢;simp only [List.getD_cons_succ,Bool.and_eq_true,Bool.or_eq_true,decide_eq_true_eq,Bool.not_eq_true',decide_eq_false_iff_not] at h1 ⊢;refine⟨⟨h1.1.1,by omega⟩,?_⟩;cases i with
 | zero=>exact .inl rfl
 | succ i =>
  have:=hstep (i+1) (by simp;omega);simp only [List.getD_cons_succ] at this;exact .inr (by simpa using this)
theorem J4b{g:Pl.Gm}{a:Ja}(h1:g.Ok)(h2:Xk g a.seg=true)(h3:0≤a.off)(h4:a.off≤g.l)(h5:KF g a.seg a.free=true):a.good g=true:=by
 unfold Ja.good;simp only [Bool.and_eq_true,decide_eq_true_eq];exact⟨⟨⟨⟨h1,h2⟩,h3⟩,h4⟩,h5⟩
structure Nx (g:Pl.Gm) (a a1:Ja) (n:Nat):Prop where
 seq:a1.seq=a.seq
 seg:0≤a1.seg∧a1.seg<g.s
 off:0≤a1.off∧a1.off+n≤g.l
 free:KF g a1.seg a1.free=true
 ok:g.Ok
theorem qp{g:Pl.Gm}{a a1:Ja}(h:a.good g=true)(hn:(n:Int)≤g.l)(e:QE g a n=some a1):Nx g a a1 n:=by
 obtain⟨h1,h2,h3,h4,h5⟩:=Ja.good_parts h;unfold QE at e;split at e
 · injection e with e
   subst e;exact⟨rfl,h2,⟨h3,by omega⟩,h5,h1⟩
 · split at e
   · cases e
   · rename_i f r hf
     injection e with e
     subst e;rw [hf] at h5;obtain⟨k1,k2⟩:=Yz h5;refine⟨rfl,?_,⟨Int.le_refl _,by simpa using hn⟩,k2,h1⟩;unfold Xk at k1;simpa using k1
theorem Nx.good{g:Pl.Gm}{a a1:Ja}(h:Nx g a a1 n)(s:Int):(⟨a1.seg,a1.off+n,s,a1.free⟩:Ja).good g=true :=
 J4b h.ok (by unfold Xk;simpa using h.seg) (by have:=h.off;show 0≤a1.off+(n:Int);omega) h.off.2 h.free
def J6(g:Pl.Gm)(a:Ja):Int:=4+a.seg*g.l+a.off
theorem Nx.first{g:Pl.Gm}{a a1:Ja}(h:Nx g a a1 n):∃f:Nat,J6 g a1=(f:Int)∧4≤f∧((f+n:Nat):Int)≤4+g.s*g.l:=by
 have h0:0≤a1.seg*g.l:=Int.mul_nonneg h.seg.1 (by have:=h.off;omega);have h1:a1.seg*g.l≤(g.s-1)*g.l:=Int.mul_le_mul_of_nonneg_right (by have:=h.seg;omega) (by have:=h.off;omega);rw [Int.sub_mul,Int.one_mul] at h1;have:=h.off;refine⟨(J6 g a1).toNat,?_,?_,?_⟩
 · unfold J6;omega
 · unfold J6;omega
 · unfold J6;push_cast;omega
theorem Je0(d:De.D)(i:Int)(X:List (List Int)):(wrs d i X).1.S.length=d.S.length∧(wrs d i X).1.T≤d.T+X.length∧(wrs d i X).1.L.length≤d.L.length+X.length:=by
 induction X generalizing d i with
 | nil=>exact⟨rfl,Nat.le_refl _,Nat.le_refl _⟩
 | cons x r ih =>
  have h1:=YQ d i (u8s x).toArray;have h2:=write_T d i (u8s x).toArray;have h3:=write_L d i (u8s x).toArray;unfold wrs;split
  · obtain⟨k1,k2,k3⟩:=ih (d.write i (u8s x).toArray) (i+1);simp only [List.length_cons];exact⟨k1.trans h1,by omega,by omega⟩
  · simp only [List.length_cons];exact⟨h1,by omega,by omega⟩
theorem Je1(d:De.D):d.flush.T≤d.T+1∧d.flush.L.length≤d.L.length:=by
 unfold De.D.flush;split <;> simp
theorem J6c(d:De.D)(i:Int)(X:List (List Int)):(Kz d i X).1.S.length=d.S.length∧(Kz d i X).1.T≤d.T+X.length+1∧(Kz d i X).1.L.length≤d.L.length+X.length:=by
 obtain⟨h1,h2,h3⟩:=Je0 d i X;unfold Kz;split
 · have:=jz (wrs d i X).1;have:=Je1 (wrs d i X).1;simp only;omega
 · simp only;omega
structure Pr where
 e:Int
 pl:List Int
 a:Ja
 d:De.D
def JY(g:Pl.Gm)(a:Ja)(d:De.D)(L:List It):Pr :=
 if XL g a L then
  match QE g a (Jd a.seq L).1.length with
  | none=>⟨14,[],a,d⟩
  | some a1 =>
   if (Kz d (J6 g a1) (Jd a.seq L).1).2 then ⟨0,(Jd a.seq L).2.map (Xx (J6 g a1)),⟨a1.seg,a1.off+(Jd a.seq L).1.length,(a.seq+Km L)%M32,a1.free⟩,(Kz d (J6 g a1) (Jd a.seq L).1).1⟩
   else ⟨12,[],a,(Kz d (J6 g a1) (Jd a.seq L).1).1⟩
 else ⟨1,[],a,d⟩
theorem J4c{g:Pl.Gm}{a:Ja}{d:De.D}{L:List It}(h:XL g a L=false):JY g a d L=⟨1,[],a,d⟩:=by unfold JY;rw [h];rfl
theorem jA{g:Pl.Gm}{a:Ja}{d:De.D}{L:List It}(h:XL g a L=true)(hn:QE g a (Jd a.seq L).1.length=none):JY g a d L=⟨14,[],a,d⟩:=by unfold JY;rw [if_pos h,hn]
theorem xp{g:Pl.Gm}{a a1:Ja}{d:De.D}{L:List It}(h:XL g a L=true)(hn:QE g a (Jd a.seq L).1.length=some a1)(hw:(Kz d (J6 g a1) (Jd a.seq L).1).2=false):JY g a d L=⟨12,[],a,(Kz d (J6 g a1) (Jd a.seq L).1).1⟩:=by
 unfold JY;rw [if_pos h,hn];simp only [hw];rfl
theorem yc{g:Pl.Gm}{a a1:Ja}{d:De.D}{L:List It}(h:XL g a L=true)(hn:QE g a (Jd a.seq L).1.length=some a1)(hw:(Kz d (J6 g a1) (Jd a.seq L).1).2=true) :
 JY g a d L=⟨0,(Jd a.seq L).2.map (Xx (J6 g a1)),⟨a1.seg,a1.off+(Jd a.seq L).1.length,(a.seq+Km L)%M32,a1.free⟩,(Kz d (J6 g a1) (Jd a.seq L).1).1⟩:=by
 unfold JY;rw [if_pos h,hn];simp only [hw];rfl
theorem Y8{g:Pl.Gm}{a:Ja}{L:List It}(h:XL g a L=true):JH L=true∧((Jd a.seq L).1.length:Int)≤g.l:=by
 unfold XL at h;simpa using h
theorem BytesAt.onlyF(h:BytesAt w sv l)(ho:Only F w w')(hn:∀b o n c,sv=.slice (some ⟨b,o,none⟩) n c→¬F b):BytesAt w' sv l:=by
 obtain⟨a,cap,e,hc⟩:=h;refine⟨a,cap,e,fun i x hx=>?_⟩;obtain⟨b,o,e2,hx2⟩:=hc i x hx;refine⟨b,o,e2,?_⟩;rw [←hx2];simp only [World.cell?,ho.block b (block_lt_of_cell hx2) (hn b o _ _ (by rw [e,e2]))]
theorem IntsAt.onlyF(h:IntsAt w sv l)(ho:Only F w w')(hn:∀b o n c,sv=.slice (some ⟨b,o,none⟩) n c→¬F b):IntsAt w' sv l:=by
 obtain⟨a,cap,e,hc⟩:=h;refine⟨a,cap,e,fun i x hx=>?_⟩;obtain⟨b,o,e2,hx2⟩:=hc i x hx;refine⟨b,o,e2,?_⟩;rw [←hx2];simp only [World.cell?,ho.block b (block_lt_of_cell hx2) (hn b o _ _ (by rw [e,e2]))]
theorem ItemsAt.onlyF{l:List (It×Value)}(h:ItemsAt w sv l)(ho:Only F w w')(hn:∀b o n c,sv=.slice (some ⟨b,o,none⟩) n c→¬F b)(hx:∀x∈l,∀b o n c,x.2=.slice (some ⟨b,o,none⟩) n c→¬F b):ItemsAt w' sv l:=by
 obtain⟨a,cap,e,hcap,hc⟩:=h;refine⟨a,cap,e,hcap,fun i x hi=>?_⟩;obtain⟨h1,h2,g,o,h3,h4⟩:=hc i x hi;refine⟨h1,h2.onlyF ho (hx x (List.mem_of_getElem? hi)),g,o,h3,fun j hj=>?_⟩;rw [←h4 j hj];simp only [World.cell?,ho.block g (block_lt_of_cell (h4 j hj)) (hn g o _ _ (by rw [e,h3]))]
def Jjz(w:World)(n:Int)(v:Value):Prop:=(n=0∧v=.nilIface)∨((n == 0)=false∧Fault w n v)
section
variable {W w:World} {jb b:Nat} {F:Nat→Prop} {d:De.D} {g:Pl.Gm} {a:Ja} {fv:Value}
theorem Ja9(h:Jn W w jb b F d g a fv)(n:Nat)(a1:Ja)(hx:QE g a n=some a1):Calls Tryz.prog 76 #[.pointer (some ⟨jb,0,none⟩),.int .i64 n] w fun e w'=>∃fv',e=.returned (.tuple #[.agg #[.int .i64 a1.seg,.int .i64 a1.off,.int .u32 a1.seq,fv'],.nilIface])∧Room w' fv fv' a1∧Below w.heap.size w w':=by
 unfold QE at hx;split at hx
 · rename_i hn
   injection hx with hx
   subst hx;exact (J69 h n hn).mono fun e w' ⟨h1,h2,h3⟩=>⟨fv,h1,h2,h3⟩
 · rename_i hn
   split at hx
   · cases hx
   · rename_i f r hf
     injection hx with hx
     subst hx;exact J6b h n hn f r hf
def Src(fv fv':Value):Prop:=∀b o n c,fv'=.slice (some ⟨b,o,none⟩) n c→∃o2 n2 c2,fv=.slice (some ⟨b,o2,none⟩) n2 c2
theorem Src.refl(fv:Value):Src fv fv:=fun b o n c e=>⟨o,n,c,e⟩
def PutOut(W w:World)(jb b:Nat)(F:Nat→Prop)(fv:Value)(g:Pl.Gm)(p:Pr)(pv ev:Value)(w':World):Prop :=
 ∃F' fv',Jjz w' p.e ev∧OwnN w' w.heap.size pv p.pl∧Jn W w' jb b F' p.d g p.a fv'∧Only (fun k=>F k∨k=jb) w w'∧(∀k,F' k→F k∨w.heap.size≤k)∧(∀k,pv.ownBlock=some k→¬F' k∧k≠jb)∧Src fv fv'
theorem PutOut.same(h:Jn W w jb b F d g a fv){w':World}(hb:Below w.heap.size w w'){n:Int}(hn:(n == 0)=false){ev:Value}(hf:Fault w' n ev):PutOut W w jb b F fv g ⟨n,[],a,d⟩ (.slice none 0 0) ev w' :=
 ⟨F,fv,.inr ⟨hn,hf⟩,OwnN.nil _ _,h.below hb,Only.of_below hb,fun k hk=>.inl hk,(fun k hk=>by cases hk),Src.refl _⟩
theorem Jhg(h:Jn W w jb b F d g a fv)(l:List (It×Value))(L:List It)(hL:l.map (·.1)=L)(sv:Value)(hlen:l.length<100000)(hi:ItemsAt w sv l)(hno:XL g a L=false):Calls Tryz.prog 48 #[.pointer (some ⟨jb,0,none⟩),sv] w fun e w'=>∃pv ev,e=.returned (.tuple #[pv,ev])∧PutOut W w jb b F fv g (JY g a d L) pv ev w':=by
 have HLA:=Zh (Jdx h l L hL sv hlen hi hno);have HWF:=Zh fun v s w (h:Fault w 1 v)=>Xj 1 v s w h;have HJ:=Zh h;rw [J4c hno];obtain⟨sa,sc,hsv⟩:=Qa hi;obtain⟨m,hm⟩:∃m,l.length=m:=⟨_,rfl⟩
 rw [hm] at hsv;subst hsv;clear h hL hlen hi hno hm;go_enter Tryz.func48,Tryz.ntmps48
 go_wp2_with fail
 refine HLA.mono ?_;rintro e w1 ⟨v,rfl,hf,hb⟩;have HB:=Zh hb;have HF:=Zh hf;obtain⟨T,dd,hv⟩:=hf.shape;subst hv;clear hf hb
 go_wp2_with fail
 refine (HWF.out _ _ _ HF.out).mono ?_;rintro e w2 ⟨v2,rfl,hf,hb⟩;have HB2:=Zh (Jk HB.out hb);have HF2:=Zh hf;obtain⟨T2,dd2,hv⟩:=hf.shape;subst hv;clear hf hb
 go_wp2_with fail
 first|go_ret2|go_ret
 exact⟨_,_,rfl,PutOut.same HJ.out HB2.out rfl HF2.out⟩
theorem Jaa(h:Jn W w jb b F d g a fv)(l:List (It×Value))(L:List It)(hL:l.map (·.1)=L)(sv:Value)(hlen:l.length<100000)(hi:ItemsAt w sv l)(hyes:XL g a L=true)(hx:QE g a (Jd a.seq L).1.length=none):Calls Tryz.prog 48 #[.pointer (some ⟨jb,0,none⟩),sv] w fun e w'=>∃pv ev,e=.returned (.tuple #[pv,ev])∧PutOut W w jb b F fv g (JY g a d L) pv ev w':=by
 have HLA:=Zh (zJ h l L hL sv hlen hi hyes);have HWF:=Zh fun v s w (h:Fault w 14 v)=>Xj 14 v s w h;have HJ:=Zh h;rw [jA hyes hx];obtain⟨sa,sc,hsv⟩:=Qa hi;obtain⟨m,hm⟩:∃m,l.length=m:=⟨_,rfl⟩
 rw [hm] at hsv;subst hsv;obtain⟨N,hN⟩:∃N,(Jd a.seq L).1.length=N:=⟨_,rfl⟩
 rw [hN] at hx;have HNN:=Zh hN;have hno:¬(N:Int)≤g.l-a.off∧a.free=[]:=by
  unfold QE at hx;split at hx
  · cases hx
  · rename_i hn
    split at hx
    · rename_i hf
      exact⟨hn,hf⟩
    · cases hx
 have HRO:=Zh fun w (h:Jn W w jb b F d g a fv)=>J6a h N hno.1 hno.2;clear h hL hlen hi hyes hm hx hN hno;go_enter Tryz.func48,Tryz.ntmps48
 go_wp2_with fail
 refine HLA.mono ?_;rintro e w1 ⟨s7,s8,rfl,ht⟩;have HB:=Zh ht.b;obtain⟨a7,c7',hv7,-⟩:=ht.s.len;obtain⟨a8,c8',hv8⟩:=ht.a.ints.form;rw [HNN.out] at hv7;subst hv7;subst hv8;clear ht;go_upto_region 6 with fail;refine Zl ?_;refine tk (.pointer (some ⟨jb,0,none⟩)) ?_;refine tk (.slice a7 N c7') ?_;refine tk (.int .i64 N) ?_;refine J0 rfl fun K hK=>?_;go_simp;refine (HRO.out _ (HJ.below HB.out)).mono ?_;rintro e w2 ⟨v,rfl,hf,hb⟩;have HB2:=Zh (Jk HB.out hb);have HF2:=Zh hf;obtain⟨T,dd,hv⟩:=hf.shape;subst hv;clear hf hb;refine hK _ _ (nm ?_);clear hK K;refine tk (.tuple #[.agg #[.int .i64 0,.int .i64 0,.int .u32 0,.slice none 0 0],.iface T dd]) ?_;refine tk (.agg #[.int .i64 0,.int .i64 0,.int .u32 0,.slice none 0 0]) ?_;refine tk (.iface T dd) ?_;refine J4 Q2 rfl ?_;intro w3 hR hb hl;refine nm ?_;have HB3:=Zh (Jk HB2.out (hb.mono Zy));have HF3:=Zh (HF2.below hb);have HL3:=Zh HB2.size;refine J3 (cs:=#[.int .i64 0,.int .i64 0,.int .u32 0,.slice none 0 0]) hR rfl JG (Kg _ _ _ _ _ _) rfl rfl rfl ?_;intro w4 hD hO hlD;refine nm ?_;have HB4:=Zh (HB3.trans (hO.below HB3.size fun k hk=>by have:=HL3.out;omega));have HF4:=Zh (HF3.onlyZ hO hR);clear hR hb hl hD hO hlD;refine tk (.iface T dd) ?_;go_wp2_with fail
 refine (HWF.out _ _ _ HF4.out).mono ?_;rintro e w5 ⟨v2,rfl,hf,hb⟩;have HB5:=Zh (Jk HB4.out hb);have HF5:=Zh hf;obtain⟨T2,dd2,hv⟩:=hf.shape;subst hv;clear hf hb
 go_wp2_with fail
 first|go_ret2|go_ret
 exact⟨_,_,rfl,PutOut.same HJ.out HB5.out rfl HF5.out⟩
end
theorem OwnS.far{w w':World}{B:Nat}{sv:Value}{l:List (List Int)}(h:OwnS w B sv l){F:Nat→Prop}(hF:∀k,F k→k<B):∀b o n c,sv=.slice (some ⟨b,o,none⟩) n c→¬F b∧b<w.heap.size:=fun b o n c e=>by
 have:=h.lt b (by rw [e];rfl);exact⟨fun hb=>by have:=hF b hb;omega,this.2⟩
section
variable {W w:World} {jb b:Nat} {F:Nat→Prop} {d:De.D} {g:Pl.Gm} {a:Ja} {fv:Value}
theorem Jn.turnS{w':World}{a':Ja}{fv':Value}{S:Nat→Prop}(h:Jn W w jb b F d g a fv)(ho:Only S w w')(hS:∀k,S k→W.heap.size≤k)(hF:∀k,F k→¬S k)(hb:Blk w' jb [.pointer (some ⟨b,0,none⟩),.int .i64 g.p,.int .i64 g.s,.int .i64 g.l,.int .i64 g.f,.int .i64 a'.seg,.int .i64 a'.off,.int .u32 a'.seq,fv'])(hf:IntsAt w' fv' a'.free)(hs:∀b' o n c,fv'=.slice (some ⟨b',o,none⟩) n c→W.heap.size≤b'∧b'≠jb∧¬F b'∧b'<w'.heap.size)(hg:a'.good g=true)(hq:Kh a'.seq)(hc:∀q n c,fv'=.slice q n c→n≤c):Jn W w' jb b F d g a' fv' :=
 ⟨h.dv.go ho hS hF,hb,hf,h.lo,h.nF,hs,hg,hq,h.total,hc⟩
theorem Jhh(h:Jn W w jb b F d g a fv)(hV:Vars W)(l:List (It×Value))(L:List It)(hL:l.map (·.1)=L)(sv:Value)(hlen:l.length<100000)(hi:ItemsAt w sv l)(hit:∀w',Only F w w'→ItemsAt w' sv l)(hyes:XL g a L=true)(a1:Ja)(hx:QE g a (Jd a.seq L).1.length=some a1)(hS:d.S.length≤1024)(hT:d.T≤800000)(hLn:d.L.length≤800000):Calls Tryz.prog 48 #[.pointer (some ⟨jb,0,none⟩),sv] w fun e w'=>∃pv ev,e=.returned (.tuple #[pv,ev])∧PutOut W w jb b F fv g (JY g a d L) pv ev w':=by
 obtain⟨hmb,hle⟩:=Y8 hyes;have hnx:=qp h.good hle hx;obtain⟨f,hf,hf4,hfn⟩:=hnx.first;have HLA:=Zh (zJ h l L hL sv hlen hi hyes);have HRO:=Zh fun w (h:Jn W w jb b F d g a fv)=>Ja9 h _ a1 hx;have HWF:=Zh fun v s w (h:Fault w 12 v)=>Xj 12 v s w h;have HJ:=Zh h;have HV:=Zh hV;have HIT:=Zh hit;have HPG:=Zh fun w' (h:ItemsAt w' sv l)=>J1f l L hL sv hlen w' h;have hPN:Km L=((parts L.length:Nat):Int):=by unfold Km;rw [hmb];rfl
 have h64:=(JK.1 hmb).2.1;have hP3:=Qo hmb;have HNG:Hid (∀s,(⟨a1.seg,a1.off+((Jd a.seq L).1.length:Nat),s,a1.free⟩:Ja).good g=true):=Zh hnx.good;have HOK:=Zh fun hw=>yc (d:=d) hyes hx hw;have HNO:=Zh fun hw=>xp (d:=d) hyes hx hw;rw [hf] at HOK HNO;have HPM:Hid (∀x∈(Jd a.seq L).2,-1≤x∧x≤2000):=Zh fun x hx=>by
  have:=zL hx;have:=hnx.ok.2.2.1.2;omega
 have HPL:Hid ((Jd a.seq L).2.length≤1000):=Zh (by rw [Qz];omega);obtain⟨k,hk⟩:∃k,(Jd a.seq L).1.length=k:=⟨_,rfl⟩
 rw [hk] at hle hx hfn HRO HNG HOK hnx;have HK:=Zh hk;obtain⟨q,hq⟩:∃q,Km L=q:=⟨_,rfl⟩
 rw [hq] at HOK HPG hPN;have hq3:1≤q∧q≤3:=by omega
 obtain⟨sa,sc,hsv⟩:=Qa hi;obtain⟨m,hm⟩:∃m,l.length=m:=⟨_,rfl⟩
 rw [hm] at hsv;subst hsv;have hfS:f+k≤d.S.length:=by have:=h.total;omega
 have HFB:Hid (f+k≤d.S.length∧d.S.length≤1024∧d.T+k≤900000∧d.L.length+k≤900000):=Zh (by omega);have HGO:=Zh hnx.ok;have HSEG:Hid (0≤a1.seg∧a1.seg≤g.s-1):=Zh (by have:=hnx.seg;omega);have HSQ:Hid (a1.seq=a.seq):=Zh hnx.seq;have gw:Hid (IntKind.i64.wrap (4+a1.seg*g.l+a1.off)=(f:Int)):=Zh (by
  unfold J6 at hf
  rw [hf]
  exact JQ (by omega) (by omega))
 have gw2:Hid (IntKind.i64.wrap (a1.off+(k:Int))=a1.off+(k:Int)):=Zh (JQ (by have:=hnx.off;omega) (by have:=hnx.off;have:=hnx.ok.2.2.1.2;omega));have gw3:Hid (IntKind.u32.wrap q=q):=Zh (kL (by omega) (by omega));have gw4:Hid (IntKind.u32.wrap (a.seq+q)=(a.seq+q)%M32):=Zh (by rw [IntKind.wrap_u32];rfl);have HSZ:=Zh fun k hk=>(h.dv.lt k hk).2;have HWZ:=Zh h.dv.2.size;have HJL:=Zh h.blk.lt;clear h hV hL hlen hi hit hyes hm hx hmb hle hnx hf hk hq h64 hP3 hPN hS hT hLn hfS hfn hf4;go_enter Tryz.func48,Tryz.ntmps48
 go_wp2_with fail
 refine HLA.mono ?_;rintro e w1 ⟨s7,s8,rfl,ht⟩;have HT:=Zh ht;obtain⟨a7,c7',hv7,-⟩:=ht.s.len;obtain⟨a8,c8',hv8⟩:=ht.a.ints.form;rw [HK.out] at hv7;obtain⟨n8,hn8⟩:∃n,(Jd a.seq L).2.length=n:=⟨_,rfl⟩
 rw [hn8] at hv8;have HN8:=Zh hn8;subst hv7;subst hv8;clear ht hn8;go_upto_region 6 with fail;refine Zl ?_;refine tk (.pointer (some ⟨jb,0,none⟩)) ?_;refine tk (.slice a7 k c7') ?_;refine tk (.int .i64 k) ?_;refine J0 rfl fun K hK=>?_;go_simp;refine (HRO.out _ (HJ.below HT.b)).mono ?_;rintro e w2 ⟨tv,rfl,hr,hb⟩;have HT2:=Zh (HT.below hb);have HR:=Zh hr;obtain⟨ta,tc,htv⟩:=hr.fr.form;obtain⟨n9,hn9⟩:∃n,a1.free.length=n:=⟨_,rfl⟩
 rw [hn9] at htv;subst htv;clear hr hb HT hn9;refine hK _ _ (nm ?_);clear hK K;refine tk (.tuple #[.agg #[.int .i64 a1.seg,.int .i64 a1.off,.int .u32 a1.seq,.slice ta n9 tc],.nilIface]) ?_;refine tk (.agg #[.int .i64 a1.seg,.int .i64 a1.off,.int .u32 a1.seq,.slice ta n9 tc]) ?_;refine tk (.nilIface) ?_;rw [HSQ.out];refine J4 Q2 rfl ?_;intro w3 hA hb hl;refine nm ?_;refine J3 (cs:=#[.int .i64 a1.seg,.int .i64 a1.off,.int .u32 a.seq,.slice ta n9 tc]) hA rfl JG (Kg _ _ _ _ _ _) rfl rfl rfl ?_;intro w4 hD hO hlD;refine nm ?_;have hbb:Below w2.heap.size w2 w4:=hb.trans (hO.below hb.size fun k hk=>Nat.le_of_eq hk.symm);have HV4:=Zh hD;have HT4:=Zh (HT2.below hbb);have HR4:=Zh (HR.fr.below hbb);have HJ4:=Zh (HJ.below HT4.b);have HVL:Hid (w.heap.size≤w2.heap.size):=Zh HT2.b.size;have HTV:Hid (∀b',Value.ownBlock (.slice a8 n8 c8')=some b'→w.heap.size≤b'∧b'<w2.heap.size):=Zh fun b' e=>HT2.a.lt b' e;clear HT2;generalize w2.heap.size=v at *;clear hA hb hl hD hO hlD hbb;refine tk (.nilIface) ?_;go_upto_region 9 with fail;refine J9 (fun wq=>Below w4.heap.size w4 wq) (by kernel_rfl) ?_;have HSd:Hid (Below w4.heap.size w4 w4.drew):=Zh Zq.drew;refine th 0 37 (.pointer (some ⟨jb,0,none⟩)) HSd.out ?_;refine th 1 38 (.pointer (some ⟨jb,0,none⟩)) HSd.out ?_;refine th 2 39 (.pointer (some ⟨jb,1,none⟩)) HSd.out ?_;refine th 3 40 (.agg #[.int .i64 g.p,.int .i64 g.s,.int .i64 g.l,.int .i64 g.f]) HSd.out ?_ (hy:=fun wq hS=>by obtain⟨c0,c1,c2,c3,c4,c5,c6,c7,c8⟩:=(HJ4.below hS).cells;go_simp);refine th 4 41 (.pointer (some ⟨v,0,none⟩)) HSd.out ?_;refine th 5 42 (.int .i64 a1.seg) HSd.out ?_ (hy:=fun wq hS=>by have q:=(HV4.below hS HV4.lt).cell (i:=0) rfl;go_simp);refine th 7 44 (.pointer (some ⟨v,1,none⟩)) HSd.out ?_;refine th 8 45 (.int .i64 a1.off) HSd.out ?_ (hy:=fun wq hS=>by have q:=(HV4.below hS HV4.lt).cell (i:=1) rfl;go_simp);refine Zo 6 fun K hK=>?_;go_simp;refine (Pl.J85 g HGO.out a1.seg HSEG.out _).mono ?_;rintro e w5 ⟨rfl,hb⟩;have HS5:=Zh (Jk HSd.out hb);refine hK _ _ HS5.out ?_;clear hK K hb;refine nm ?_;refine th 9 46 (.int .i64 (f:Int)) HS5.out ?_ (hy:=fun wq hS=>by have q:=gw.out;go_simp);refine th 10 10 (.int .i64 (f:Int)) HS5.out ?_;refine Zd ?_;have HV5:=Zh (HV4.below HS5.out HV4.lt);have HT5:=Zh (HT4.below HS5.out);have HR5:=Zh (HR4.below HS5.out);have HJ5:=Zh (HJ.below HT5.b);clear HV4 HT4 HR4 HJ4 HSd HS5;go_upto_region 10 with fail;refine Zl ?_;refine tk (.pointer (some ⟨jb,0,none⟩)) ?_;refine tk (.int .i64 (f:Int)) ?_;refine tk (.slice a7 k c7') ?_;refine J0 rfl fun K hK=>?_;go_simp;refine (J25 HJ5.out HV.out f (Jd a.seq L).1 _ HT5.s.secs (OwnS.far (w':=w5) HT5.s HSZ.out) (by rw [HK.out];exact HFB.out.1) HFB.out.2.1 (by rw [HK.out];exact HFB.out.2.2.1) (by rw [HK.out];exact HFB.out.2.2.2)).mono ?_;rintro e w6 ⟨wv,F',rfl,he,hj,ho,hn⟩;have HO6:Hid (Only F w w6):=Zh ((Only.of_below (S:=F) HT5.b).then ho (fun j hj=>.inl hj));have HN6:Hid (∀j,F' j→F j∨w.heap.size≤j):=Zh fun j hj=>(hn j hj).imp id fun h2=>Nat.le_trans HT5.b.size h2;have HVF:Hid (¬F v):=Zh fun hF=>by have:=HSZ.out v hF;have:=HVL.out;omega
 have HNV:Hid (¬F' v):=Zh fun hF=>by
  rcases hn v hF with h1|h1
  · exact HVF.out h1
  · have:=HV5.lt;omega
 have HJ6:=Zh hj;have HV6:=Zh (HV5.only ho HVF.out);have HR6:=Zh (HR5.onlyF ho fun b' o n c e=>by
  obtain⟨o2,n2,c2,e2⟩:=HR.src b' o n c e
  exact (HJ.sep b' o2 n2 c2 e2).2.2.1)
 have HA6:=Zh (HT5.a.ints.onlyF ho fun b' o n c e hF=>by
  have:=HT5.a.lt b' (by rw [e];rfl)
  have:=HSZ.out b' hF
  omega)
 have HFAR:Hid (∀b' o n c,Value.slice a8 n8 c8'=.slice (some ⟨b',o,none⟩) n c→w.heap.size≤b'∧¬b'=v):=Zh fun b' o n c e=>by
  have h1:=HTV.out b' (by rw [e];rfl);exact⟨h1.1,by omega⟩
 clear hj ho hn HV5 HR5 HT5 HJ5;rcases he with ⟨hw,rfl⟩|⟨hw,hf⟩
 · have HW:=Zh hw;clear hw;refine hK _ _ (nm ?_);clear hK K;refine tk (.nilIface) ?_;go_upto_region 13 with fail;refine Zl ?_;refine tk (.pointer (some ⟨v,1,none⟩)) ?_;refine tk (.int .i64 a1.off) ?_ (hr:=by have q:=HV6.cell (i:=1) rfl;go_simp);refine tk (.slice a7 k c7') ?_;refine tk (.int .i64 k) ?_;refine tk (.int .i64 (a1.off+(k:Int))) ?_ (hr:=by have q:=gw2.out;go_simp);refine tk (.pointer (some ⟨v,1,none⟩)) ?_;refine Xy (w6.setCell ⟨v,1,none⟩ (.int .i64 (a1.off+(k:Int)))) rfl (by have q:=HV6.cell (i:=1) rfl;have fz:=HV6.frozen 1;go_simp) ?_;have HV7:=Zh (HV6.set 1 (.int .i64 (a1.off+(k:Int))));have HO7:Hid (Only (fun k=>k=v) w6 (w6.setCell ⟨v,1,none⟩ (.int .i64 (a1.off+(k:Int))))):=Zh ((Only.refl (fun k=>k=v) w6).setCell (p:=⟨v,1,none⟩) (.inl rfl) _);generalize w6.setCell ⟨v,1,none⟩ (.int .i64 (a1.off+(k:Int)))=w7 at *;refine nm ?_;go_upto_region 14 with fail
   go_cut [67] from 61 to 67 (fun s wx=>s=.pointer (some ⟨v,2,none⟩)∧Blk wx v [.int .i64 a1.seg,.int .i64 (a1.off+(k:Int)),.int .u32 ((a.seq+q)%M32),.slice ta n9 tc]∧Only (fun k=>k=v) w7 wx)
   case first =>
    refine J9 (fun wq=>Only (fun k=>k=v) w7 wq) (by kernel_rfl) ?_;have HSd:Hid (Only (fun k=>k=v) w7 w7.drew):=Zh (Only.refl _ _).drew;have HVd:=Zh HV7.drew;have HIW:Hid (∀wq,Only (fun k=>k=v) w7 wq→ItemsAt wq (.slice sa m sc) l):=Zh fun wq hS=>HIT.out wq (HO6.then (HO7.trans hS) (fun j hj=>.inr (by rw [hj];exact HVL.out)));generalize w7.drew=wS at *;refine th 0 61 (.pointer (some ⟨v,2,none⟩)) HSd.out ?_;refine th 2 63 (.slice sa m sc) HSd.out ?_;refine kO 1 3 (by kernel_rfl) rfl rfl rfl rfl (fun K hK=>?_) (fun K hK=>?_)
    · refine Jf (some 62) rfl (.int .u32 a.seq) wS (by have hq:=HVd.cell (i:=2) rfl;go_simp) ?_;refine hK _ _ HSd.out (nm ?_);clear hK K;refine Zo 3 fun K hK=>?_;go_simp;refine (HPG.out _ (HIW.out _ HSd.out)).mono ?_;rintro e wT ⟨rfl,hb⟩;have HST:Hid (Only (fun k=>k=v) w7 wT):=Zh (HSd.trans (Only.of_below hb));have HVT:=Zh (HVd.below hb HVd.lt);refine hK _ _ HST.out ?_;clear hK K hb;refine nm ?_;refine th 4 65 (.int .u32 q) HST.out ?_ (hy:=fun wq hS=>by have z:=gw3.out;go_simp);refine th 5 66 (.int .u32 ((a.seq+q)%M32)) HST.out ?_ (hy:=fun wq hS=>by have z:=gw4.out;go_simp);refine th 6 67 (.pointer (some ⟨v,2,none⟩)) HST.out ?_;refine Zo 7 fun K hK=>?_;refine JZ none rfl (wT.setCell ⟨v,2,none⟩ (.int .u32 ((a.seq+q)%M32))) (by have hq:=HVT.cell (i:=2) rfl;have hf:=HVT.frozen 2;go_simp) ?_;have HSe:Hid (Only (fun k=>k=v) w7 (wT.setCell ⟨v,2,none⟩ (.int .u32 ((a.seq+q)%M32)))):=Zh (HST.setCell (p:=⟨v,2,none⟩) (.inl rfl) _);have HVe:=Zh (HVT.set 2 (.int .u32 ((a.seq+q)%M32)));refine hK _ _ HSe.out ?_;clear hK K;generalize wT.setCell ⟨v,2,none⟩ (.int .u32 ((a.seq+q)%M32))=wU at *;refine nm ?_;refine Zd ?_
      go_wp2_with fail
      go_meet
      exact⟨rfl,HVe.out,HSe.out⟩
    · go_simp;refine (HPG.out _ (HIW.out _ HSd.out)).mono ?_;rintro e wT ⟨rfl,hb⟩;have HST:Hid (Only (fun k=>k=v) w7 wT):=Zh (HSd.trans (Only.of_below hb));have HVT:=Zh (HVd.below hb HVd.lt);refine hK _ _ HST.out ?_;clear hK K hb;refine nm ?_;refine th 4 65 (.int .u32 q) HST.out ?_ (hy:=fun wq hS=>by have z:=gw3.out;go_simp);refine Zo 1 fun K hK=>?_;refine Jf (some 62) rfl (.int .u32 a.seq) wT (by have hq:=HVT.cell (i:=2) rfl;go_simp) ?_;refine hK _ _ HST.out (nm ?_);clear hK K;refine th 5 66 (.int .u32 ((a.seq+q)%M32)) HST.out ?_ (hy:=fun wq hS=>by have z:=gw4.out;go_simp);refine th 6 67 (.pointer (some ⟨v,2,none⟩)) HST.out ?_;refine Zo 7 fun K hK=>?_;refine JZ none rfl (wT.setCell ⟨v,2,none⟩ (.int .u32 ((a.seq+q)%M32))) (by have hq:=HVT.cell (i:=2) rfl;have hf:=HVT.frozen 2;go_simp) ?_;have HSe:Hid (Only (fun k=>k=v) w7 (wT.setCell ⟨v,2,none⟩ (.int .u32 ((a.seq+q)%M32)))):=Zh (HST.setCell (p:=⟨v,2,none⟩) (.inl rfl) _);have HVe:=Zh (HVT.set 2 (.int .u32 ((a.seq+q)%M32)));refine hK _ _ HSe.out ?_;clear hK K;generalize wT.setCell ⟨v,2,none⟩ (.int .u32 ((a.seq+q)%M32))=wU at *;refine nm ?_;refine Zd ?_
      go_wp2_with fail
      go_meet
      exact⟨rfl,HVe.out,HSe.out⟩
   case rest =>
    obtain⟨rfl,hv,ho⟩:=hcut;have HV9:=Zh hv;have HO9:=Zh (HO7.trans ho);have HVJ:Hid (¬jb=v):=Zh (by have:=HJL.out;have:=HVL.out;omega);have HJB:=Zh (HJ6.blk.only HO9.out HVJ.out);clear hv ho HV6 HV7 HO7;go_upto_region 15 with fail;refine Zl ?_;refine tk (.pointer (some ⟨jb,0,none⟩)) ?_;refine tk (.agg #[.int .i64 a1.seg,.int .i64 (a1.off+(k:Int)),.int .u32 ((a.seq+q)%M32),.slice ta n9 tc]) ?_ (hr:=by have q0:=HV9.cell (i:=0) rfl;have q1:=HV9.cell (i:=1) rfl;have q2:=HV9.cell (i:=2) rfl;have q3:=HV9.cell (i:=3) rfl;go_simp);refine tk (.pointer (some ⟨jb,0,none⟩)) ?_;refine tk (.pointer (some ⟨jb,5,none⟩)) ?_;refine ZD (g:=jb) (off:=5) (cs:=#[.int .i64 a1.seg,.int .i64 (a1.off+(k:Int)),.int .u32 ((a.seq+q)%M32),.slice ta n9 tc]) HJB.out JG (by simp) (Kg _ _ _ _ _ _) rfl rfl rfl ?_;intro wB hD hO hlD;refine nm ?_;have HOB:Hid (Only (fun k=>k=v∨k=jb) w6 wB):=Zh ((HO9.more fun j _ hj=>.inl hj).trans (hO.more fun j _ hj=>.inr hj));have HSRC:Hid (∀b' o n c,Value.slice ta n9 tc=.slice (some ⟨b',o,none⟩) n c→W.heap.size≤b'∧b'≠jb∧¬F b'∧b'<w.heap.size):=Zh fun b' o n c e=>by
     obtain⟨o2,n2,c2,e2⟩:=HR.src b' o n c e;exact HJ.sep b' o2 n2 c2 e2
    have HTB:=Zh (HJ6.turnS (a':=⟨a1.seg,a1.off+(k:Int),(a.seq+q)%M32,a1.free⟩) HOB.out
     (fun j hj=>hj.elim (fun e=>by rw [e];exact Nat.le_trans HWZ.out HVL.out) fun e=>by rw [e];exact HJ.lo)
     (fun j hF hj=>hj.elim (fun e=>HNV.out (e ▸ hF)) fun e=>HJ6.nF (e ▸ hF))
     (by simpa [Jt] using hD)
     (HR6.onlyF HOB.out fun b' o n c e hj=>by
      obtain⟨h1,h2,h3,h4⟩:=HSRC.out b' o n c e
      rcases hj with hj|hj
      · have:=HVL.out;omega
      · exact h2 hj)
     (fun b' o n c e=>by
      obtain⟨h1,h2,h3,h4⟩:=HSRC.out b' o n c e
      refine⟨h1,h2,fun hF=>?_,?_⟩
      · rcases HN6.out b' hF with h5|h5
        · exact h3 h5
        · omega
      · have:=HO6.size;have:=HOB.size;omega)
     (HNG.out _) (YN _) HR.cp)
    have HAB:=Zh (HA6.onlyF HOB.out fun b' o n c e hj=>by
     have h1:=HFAR.out b' o n c e
     rcases hj with hj|hj
     · exact h1.2 hj
     · have:=HJL.out;omega)
    clear hD hO hlD;go_upto_region 16 with fail;refine Zl ?_;refine tk (.int .i64 (f:Int)) ?_;refine tk (.slice a8 n8 c8') ?_;refine J0 rfl fun K hK=>?_;go_simp;refine (J26 f (Jd a.seq L).2 _ _ HAB.out HPL.out (by have:=HFB.out;omega) HPM.out).mono ?_;rintro e wC ⟨pv,rfl,hown,hb⟩;have HOW:=Zh (hown.mono (show w.heap.size≤wB.heap.size by have:=HO6.size;have:=HOB.size;omega));have HTC:=Zh (HTB.below hb);have HPA:Hid (∀k,pv.ownBlock=some k→¬F' k∧k≠jb):=Zh fun k hk=>by
     have h1:=(hown.lt k hk).1;have h2:=HOB.size;have h3:=HO6.size;have h4:=HJL.out;exact⟨fun hF=>by have:=(HJ6.dv.lt k hF).2;omega,by omega⟩
    have HOC:Hid (Only (fun k=>F k∨k=jb) w wC):=Zh ((((HO6.more fun j _ hj=>.inl hj).then HOB.out fun j hj=>by
     rcases hj with rfl|rfl
     · exact .inr HVL.out
     · exact .inl (.inr rfl))).trans (Only.of_below hb))
    obtain⟨pa,pc,hpv⟩:=hown.ints.form;obtain⟨pn,hpn⟩:∃n,((Jd a.seq L).2.map (Xx f)).length=n:=⟨_,rfl⟩
    rw [hpn] at hpv;subst hpv;clear hown hb hpn;refine hK _ _ (nm ?_);clear hK K;refine tk (.slice pa pn pc) ?_;refine tk (.nilIface) ?_;go_wp2_with fail
    first|go_ret2|go_ret
    refine⟨_,_,rfl,?_⟩;rw [HOK.out HW.out];exact⟨F',_,.inl ⟨rfl,rfl⟩,HOW.out,HTC.out,HOC.out,HN6.out,HPA.out,HR.src⟩
 · have HW:=Zh hw;have HF6:=Zh hf;obtain⟨T,dd,hv⟩:=hf.shape;subst hv;clear hw hf;refine hK _ _ (nm ?_);clear hK K;refine tk (.iface T dd) ?_;go_wp2_with fail
   refine (HWF.out _ _ _ HF6.out).mono ?_;rintro e w8 ⟨v2,rfl,hf,hb⟩;have HJ8:=Zh (HJ6.below hb);have HO8:Hid (Only (fun k=>F k∨k=jb) w w8):=Zh ((HO6.more fun j _ hj=>.inl hj).trans (Only.of_below hb));have HF8:=Zh hf;obtain⟨T2,dd2,hv⟩:=hf.shape;subst hv;clear hf hb
   go_wp2_with fail
   first|go_ret2|go_ret
   refine⟨_,_,rfl,?_⟩;rw [HNO.out HW.out];exact⟨F',fv,.inr ⟨rfl,HF8.out⟩,OwnN.nil _ _,HJ8.out,HO8.out,HN6.out,(fun k hk=>by cases hk),Src.refl _⟩
end
section
variable {W w:World} {jb b:Nat} {F:Nat→Prop} {d:De.D} {g:Pl.Gm} {a:Ja} {fv:Value}
theorem Jab(h:Jn W w jb b F d g a fv)(hV:Vars W)(l:List (It×Value))(L:List It)(hL:l.map (·.1)=L)(sv:Value)(hlen:l.length<100000)(hi:ItemsAt w sv l)(hit:∀w',Only F w w'→ItemsAt w' sv l)(hS:d.S.length≤1024)(hT:d.T≤800000)(hLn:d.L.length≤800000):Calls Tryz.prog 48 #[.pointer (some ⟨jb,0,none⟩),sv] w fun e w'=>∃pv ev,e=.returned (.tuple #[pv,ev])∧PutOut W w jb b F fv g (JY g a d L) pv ev w':=by
 cases hy:XL g a L
 · exact Jhg h l L hL sv hlen hi hy
 · cases hx:QE g a (Jd a.seq L).1.length with
   | none=>exact Jaa h l L hL sv hlen hi hy hx
   | some a1=>exact Jhh h hV l L hL sv hlen hi hit hy a1 hx hS hT hLn
def Jja(W w:World)(jb b:Nat)(F:Nat→Prop)(fv:Value)(g:Pl.Gm)(p:Pr)(pv:Value)(w':World):Prop :=
 ∃F' fv',OwnN w' w.heap.size pv p.pl∧Jn W w' jb b F' p.d g p.a fv'∧Only (fun k=>F k∨k=jb) w w'∧(∀k,F' k→F k∨w.heap.size≤k)∧(∀k,pv.ownBlock=some k→¬F' k∧k≠jb)∧Src fv fv'
theorem J4d(h:Jn W w jb b F d g a fv)(hV:Vars W)(l:List (It×Value))(L:List It)(hL:l.map (·.1)=L)(sv:Value)(hlen:l.length<100000)(hi:ItemsAt w sv l)(hit:∀w',Only F w w'→ItemsAt w' sv l)(hS:d.S.length≤1024)(hT:d.T≤800000)(hLn:d.L.length≤800000):Calls Tryz.prog 24 #[.pointer (some ⟨jb,0,none⟩),sv] w fun e w'=>∃pv,e=.returned (.tuple #[pv,.int .i64 (JY g a d L).e])∧Jja W w jb b F fv g (JY g a d L) pv w':=by
 have HP:=Zh (Jab h hV l L hL sv hlen hi hit hS hT hLn);have HV:=Zh hV;obtain⟨sa,sc,hsv⟩:=Qa hi;obtain⟨m,hm⟩:∃m,l.length=m:=⟨_,rfl⟩
 rw [hm] at hsv;subst hsv;obtain⟨p,hp⟩:∃p,JY g a d L=p:=⟨_,rfl⟩
 rw [hp] at HP ⊢;clear h hV hL hlen hi hit hS hT hLn hm hp;go_enter Tryz.func24,Tryz.ntmps24
 go_wp2_with fail
 refine HP.mono ?_;rintro e w1 ⟨pv,ev,rfl,F',fv',he,ho,hj,hon,hn,hpa,hsr⟩;have HO:=Zh ho;have HJ:=Zh hj;have HON:=Zh hon;have HN:=Zh hn;have HPA:=Zh hpa;have HSR:=Zh hsr;have HVA:=Zh (Vars.below Zy hj.dv.2 HV.out);obtain⟨pa,pc,hpv⟩:=ho.ints.form;obtain⟨pn,hpn⟩:∃n,p.pl.length=n:=⟨_,rfl⟩
 rw [hpn] at hpv;subst hpv;clear ho hj hon hn hpa hsr hpn HP;rcases he with ⟨h0,rfl⟩|⟨h0,hf⟩
 · have H0:=Zh h0;clear h0
   go_wp2_with fail
   refine (jw _).mono ?_;rintro e w2 ⟨rfl,rfl⟩
   go_wp2_with fail
   first|go_ret2|go_ret
   exact⟨.slice pa pn pc,by rw [H0.out];rfl,F',fv',HO.out,HJ.out,HON.out,HN.out,HPA.out,HSR.out⟩
 · have HF:=Zh hf;obtain⟨T,dd,hv⟩:=hf.shape;subst hv;clear hf h0
   go_wp2_with fail
   refine (J9u _ _ _ HVA.out HF.out).mono ?_;rintro e w2 ⟨rfl,hb⟩;have HB:=Zh hb;clear hb
   go_wp2_with fail
   first|go_ret2|go_ret
   exact⟨_,rfl,F',fv',HO.below HB.out,HJ.below HB.out,HON.trans (Only.of_below HB.out),HN.out,HPA.out,HSR.out⟩
end
abbrev nb:Value:=.slice none 0 0
def KW(k id:Int):It:=⟨(k,id),Bk.none⟩
theorem zM(k id:Int):Tryz.prog.built 84 [(0,.agg #[.int .i64 k,.int .i64 id])]=some ((KW k id).arr (.slice none 0 0)):=by kernel_rfl
theorem XV{k id:Int}(h:Jh k)(h2:Jh id):(KW k id).Wf:=⟨h,h2,none_wf⟩
theorem yd{id v:Int}(h:0≤id∧id<64):(X5 id v).ok=true:=by
 have h1:Kf (1,id)=true:=KQ.2 ⟨by simp,by simp,h.1,h.2,by intro e;simp at e⟩;have h2:within id 0 63=true:=by simp [within];omega
 simp [It.ok,It.fits,It.has,X5,Za,h1,JE,Bk.good,Bk.plain,h2]
theorem qq{k id:Int}(hk:k=4∨k=5)(h:0≤id∧id<64):(KW k id).ok=true:=by
 have h1:Kf (k,id)=true:=KQ.2 ⟨by simp only;omega,by simp only;omega,h.1,h.2,by intro e;simp only at e;omega⟩;have h3:JE k=false:=by simp [JE];omega
 simp [It.ok,It.fits,It.has,KW,h1,h3,(by decide:Bk.none.isZ=true)]
theorem J4e(n:Nat)(h:n<256):Ks (n:Int):=⟨by omega,by omega⟩
theorem QO(n:Nat)(h:n<1000):Jh (n:Int):=⟨by omega,by omega⟩
theorem J27(n:Nat)(h:n<1000):Kh (n:Int):=⟨by omega,by simp only [M32];omega⟩
theorem Jac(W:World){x:It}(hx:x.Wf):(Instr.buildSlice 74 1 #[(0,.agg (x.arr nb))]).run Tryz.prog W=.ok (.slice (some ⟨W.heap.size,0,none⟩) 1 1) (W.alloc (.cells (Jg [(x,nb)]).toArray 84)):=yZ W [(x,nb)] (fun y hy=>by obtain rfl:=List.mem_singleton.1 hy;exact hx) (by simp) (by simp)
theorem Jad(W:World){x y:It}(hx:x.Wf)(hy:y.Wf):(Instr.buildSlice 74 2 #[(0,.agg (x.arr nb)),(1,.agg (y.arr nb))]).run Tryz.prog W=.ok (.slice (some ⟨W.heap.size,0,none⟩) 2 2) (W.alloc (.cells (Jg [(x,nb),(y,nb)]).toArray 84)):=yZ W [(x,nb),(y,nb)] (fun z hz=>by simp at hz;rcases hz with rfl|rfl;exact hx;exact hy) (by simp) (by simp)
theorem J4f(W:World){l:List (It×Value)}(h:∀x∈l,x.1.Wf∧x.2=nb∧x.1.blk.bytes=[])(n:Nat)(hn:l.length=n)(hl:n≤1000){F:Nat→Prop}(hF:∀k,F k→k<W.heap.size) :
 ItemsAt (W.alloc (.cells (Jg l).toArray 84)) (.slice (some ⟨W.heap.size,0,none⟩) n n) l∧∀w',Only F (W.alloc (.cells (Jg l).toArray 84)) w'→ItemsAt w' (.slice (some ⟨W.heap.size,0,none⟩) n n) l:=by
 subst hn;have h1:=(OwnI.lit (w:=W) (fun x hx=>(h x hx).1) (fun x hx=>by obtain⟨-,h2,h3⟩:=h x hx;rw [h2,h3];exact BytesAt.nil _ _ _) hl).items;refine⟨h1,fun w' ho=>h1.onlyF ho (fun b o n c e hb=>?_) fun x hx b o n c e=>?_⟩
 · cases e;have:=hF _ hb;omega
 · rw [(h x hx).2.1] at e;cases e
theorem Je2(d:De.D)(i:Int)(X:List (List Int))(h0:0≤i)(h1:i+(X.length:Nat)≤d.S.length)(hF:d.F<0∨((X.length:Nat):Int)≤d.F) :
 (wrs d i X).2=true∧(wrs d i X).1.S=d.S∧(wrs d i X).1.T=d.T+X.length∧(wrs d i X).1.F=(if d.F<0 then d.F else d.F-(X.length:Nat)):=by
 induction X generalizing d i with
 | nil =>
  refine⟨rfl,rfl,rfl,?_⟩;show d.F=_;split <;> simp
 | cons x r ih =>
  simp only [List.length_cons] at h1 hF;have hh:d.has i=true:=by
   unfold De.D.has;simp only [Bool.and_eq_true,decide_eq_true_eq];omega
  have hf:¬d.F=0:=by omega
  have he:d.writeE i=0:=by unfold De.D.writeE;rw [if_pos hh,if_neg hf]
  have hw:d.write i (u8s x).toArray={ d with F:=d.nextF,T:=d.T+1,L:=d.L++[(i.toNat,(u8s x).toArray)] }:=by unfold De.D.write;rw [if_pos hh,if_neg hf]
  have hn:d.nextF=if d.F<0 then d.F else d.F-1:=rfl
  unfold wrs;rw [if_pos he,hw];obtain⟨k1,k2,k3,k4⟩:=ih { d with F:=d.nextF,T:=d.T+1,L:=d.L++[(i.toNat,(u8s x).toArray)] } (i+1) (by omega) (by simp only;omega) (by simp only;rw [hn];split <;> omega);refine⟨k1,k2,?_,?_⟩
  · rw [k3,List.length_cons];simp only;omega
  · rw [k4];simp only;rw [hn,List.length_cons]
    by_cases h:d.F<0
    · simp only [if_pos h]
    · simp only [if_neg h];rw [if_neg (by omega)];omega
theorem J6d(d:De.D)(i:Int)(X:List (List Int))(h0:0≤i)(h1:i+(X.length:Nat)≤d.S.length)(hF:d.F<0∨((X.length+1:Nat):Int)≤d.F) :
 (Kz d i X).2=true∧(Kz d i X).1.L=[]∧(Kz d i X).1.T=d.T+X.length+1∧(Kz d i X).1.F=(if d.F<0 then d.F else d.F-((X.length+1:Nat):Int)):=by
 obtain⟨k1,k2,k3,k4⟩:=Je2 d i X h0 h1 (by omega);have hf:¬(wrs d i X).1.F=0:=by rw [k4];split <;> omega
 unfold Kz;rw [if_pos k1];have e1:(wrs d i X).1.flushE=0:=by unfold De.D.flushE;rw [if_neg hf]
 have e2:(wrs d i X).1.flush={ (wrs d i X).1 with F:=(wrs d i X).1.nextF,T:=(wrs d i X).1.T+1,S:=De.app (wrs d i X).1.S (wrs d i X).1.L,L:=[] }:=by unfold De.D.flush;rw [if_neg hf]
 rw [e1,e2];refine⟨rfl,rfl,by simp only;omega,?_⟩;simp only;unfold De.D.nextF;rw [k4]
 by_cases h:d.F<0
 · simp only [if_pos h]
 · simp only [if_neg h];rw [if_neg (by omega)];omega
theorem xq{g:Pl.Gm}{a a1:Ja}{d:De.D}{L:List It}(hg:a.good g=true)(hl:XL g a L=true)(hn:QE g a (Jd a.seq L).1.length=some a1)(ht:4+g.s*g.l≤(d.S.length:Int))(hF:d.F<0∨(((Jd a.seq L).1.length+1:Nat):Int)≤d.F) :
 (JY g a d L).e=0∧(JY g a d L).pl=(Jd a.seq L).2.map (Xx (J6 g a1))∧(JY g a d L).a=⟨a1.seg,a1.off+(Jd a.seq L).1.length,(a.seq+Km L)%M32,a1.free⟩∧(JY g a d L).d.L=[]∧(JY g a d L).d.T=d.T+(Jd a.seq L).1.length+1∧(JY g a d L).d.S.length=d.S.length∧(JY g a d L).d.F=(if d.F<0 then d.F else d.F-(((Jd a.seq L).1.length+1:Nat):Int)):=by
 obtain⟨f,hf,hf4,hfn⟩:=(qp hg (Y8 hl).2 hn).first;obtain⟨k1,k2,k3,k4⟩:=J6d d (J6 g a1) (Jd a.seq L).1 (by omega) (by omega) hF;rw [yc hl hn k1];exact⟨rfl,rfl,rfl,k2,k3,(J6c d (J6 g a1) (Jd a.seq L).1).1,k4⟩
theorem zN(n:Nat):(De.Ki n).S.length=n:=List.length_replicate
def WG:Pl.Gm:=⟨16,8,24,4⟩
variable {B:Nat} {K:Act→World→Prop} {P:Program} {Q:Exit→Act→World→Prop} {a:Act} {l:List Int} {o:Oper} {sv tv:Value} {w:World}
theorem Jhi{m:List Int}(x y:Operand)(dst:Option Tmp)(hd:o.dst=dst)(ho:o.op=.call { callee:=.builtin .append,args:=#[x,y],argTypes:=#[41,41] })(h:OwnN w B sv l)(hB:B≤w.heap.size)(k:IntsAt w tv m)(hlen:l.length+m.length≤1000000)(hx:a.eval x=sv)(hy:a.eval y=tv)(hh:∀sv' w',OwnN w' B sv' (l++m)→Below B w w'→K (a.put dst sv') w'):o.wp Tryz.prog a w K Q:=by
 obtain⟨sv',w',hr,hO,hg⟩:=z6 h hB k hlen o.type;exact Jf dst hd sv' w' (Qd a.eval o x y 41 41 ho sv tv sv' hx hy hr) (hh sv' w' hO (Kq hg hB fun k hk=>(h.lt k hk).1))
theorem Only.of_belowB{a b:World}(h:Below B a b):Only (fun j=>B≤j) a b:=⟨h.os,h.tape,h.output,h.size,fun i hi hn=>h.block i (by omega)⟩
theorem Jhj:(Tryz.prog.info? 90).bind (·.zero)=some (.agg #[.int .i64 0,.int .i64 0,.int .u32 0,.slice none 0 0]):=by kernel_rfl
theorem Jae:(Tryz.prog.info? 90).map (·.size)=some 4:=by kernel_rfl
theorem Je3(s o q:Int)(a:Option Addr)(n c:Nat):Tryz.prog.built 90 [(0,.int .i64 s),(1,.int .i64 o),(2,.int .u32 q),(3,.slice a n c)]=some #[.int .i64 s,.int .i64 o,.int .u32 q,.slice a n c]:=by kernel_rfl
theorem Jw(ty:TypeId)(x y:Operand)(ho:o.op=.store ty x y)(g:Nat)(cs:Array Value)(hx:a.eval x=.pointer (some ⟨g,0,none⟩))(hy:a.eval y=.agg cs)(l:List Value)(hg:Blk w g l)(hl:l.length=cs.size)(hi:(P.info? ty).map (·.size)=some cs.size)(h1:∀v∈cs,v.oneCell'=true)(h:∀wX,Blk wX g cs.toList→Only (fun k=>k=g) w wX→K (a.put o.dst undef) wX):o.wp P a w K Q:=by
 refine Kp ty x y ho g 0 cs hx hy l hg hi (by omega) h1 ?_;rw [JW _ _ hl];exact h _ (hg.row cs) ((Only.refl (fun k=>k=g) w).setRow (g:=g) (.inl rfl) cs)
section
variable {w:World}
theorem Jaf(a:Ja)(fv:Value)(hl:a.free.length≤1000000)(h:IntsAt w fv a.free):Calls Tryz.prog 26 #[.agg #[.int .i64 a.seg,.int .i64 a.off,.int .u32 a.seq,fv]] w fun e w'=>∃tv,e=.returned (.agg #[.int .i64 a.seg,.int .i64 a.off,.int .u32 a.seq,tv])∧OwnN w' w.heap.size tv a.free∧Below w.heap.size w w':=by
 obtain⟨fa,fc,hfv⟩:=h.form;obtain⟨n,hnn⟩:∃n,a.free.length=n:=⟨_,rfl⟩
 rw [hnn] at hfv hl;subst hfv;have HN:=Zh hnn;have HI:=Zh h;have HL:=Zh hl;clear h hnn hl;go_enter Tryz.func26,Tryz.ntmps26;go_upto_region 0 with fail;refine Zl ?_;refine JV rfl rfl ?_;refine nm ?_;intro w1 hV hb hl;refine nm ?_;have HV:=Zh hV;have HB:=Zh hb;have HLT:Hid (w.heap.size<w1.heap.size):=Zh hl;clear hV hb hl;refine J4 Jhj rfl ?_;intro w2 hR hb hl;refine nm ?_;have HR:=Zh hR;have HV2:=Zh (HV.below hb HV.lt);have HB2:=Zh (Jk HB.out hb);have HI2:=Zh (HI.below HB2.out);have HNE:Hid (¬w.heap.size=w1.heap.size):=Zh (by have:=HLT.out;omega);have HW1:Hid (w.heap.size≤w1.heap.size∧w1.heap.size<w2.heap.size):=Zh ⟨by have:=HLT.out;omega,hl⟩;clear hR hb hl HV HB;generalize w1.heap.size=r at *;go_upto_region 1 with fail;refine J9 (fun wq=>Only (fun k=>k=r) w2 wq) (by kernel_rfl) ?_;have HS0:Hid (Only (fun k=>k=r) w2 w2.drew):=Zh (Only.refl _ _).drew;have HR0:Hid (Blk w2.drew r [.int .i64 0,.int .i64 0,.int .u32 0,.slice none 0 0]):=Zh HR.drew;have HUR:Hid (r<w2.drew.heap.size):=Zh HR0.lt;generalize w2.drew=u0 at *;refine th 0 3 (.pointer (some ⟨w.heap.size,0,none⟩)) HS0.out ?_;refine th 1 4 (.int .i64 a.seg) HS0.out ?_ (hy:=fun wq hS=>by have q:=(HV2.only hS HNE.out).cell (i:=0) rfl;go_simp);refine th 2 5 (.pointer (some ⟨w.heap.size,1,none⟩)) HS0.out ?_;refine th 3 6 (.int .i64 a.off) HS0.out ?_ (hy:=fun wq hS=>by have q:=(HV2.only hS HNE.out).cell (i:=1) rfl;go_simp);refine th 4 7 (.pointer (some ⟨w.heap.size,2,none⟩)) HS0.out ?_;refine th 5 8 (.int .u32 a.seq) HS0.out ?_ (hy:=fun wq hS=>by have q:=(HV2.only hS HNE.out).cell (i:=2) rfl;go_simp);refine th 7 10 (.pointer (some ⟨w.heap.size,3,none⟩)) HS0.out ?_;refine th 8 11 (.slice fa n fc) HS0.out ?_ (hy:=fun wq hS=>by have q:=(HV2.only hS HNE.out).cell (i:=3) rfl;go_simp);refine Zo 6 fun K hK=>?_;refine Jf (some 9) rfl (.slice (some ⟨u0.heap.size,0,none⟩) 0 0) (u0.alloc (.cells #[] 3)) (by go_simp) ?_;have HO1:Hid (OwnN (u0.alloc (.cells #[] 3)) u0.heap.size (.slice (some ⟨u0.heap.size,0,none⟩) 0 0) []):=Zh (OwnN.lit u0 u0.heap.size Zy [] (by simp) #[] rfl);have HS1:Hid (Only (fun k=>k=r) w2 (u0.alloc (.cells #[] 3))):=Zh (HS0.alloc _);have HR1:Hid (Blk (u0.alloc (.cells #[] 3)) r [.int .i64 0,.int .i64 0,.int .u32 0,.slice none 0 0]):=Zh (HR0.alloc _);have HU1:Hid (u0.heap.size≤(u0.alloc (.cells #[] 3)).heap.size):=Zh (by simp);have HUW:Hid (w2.heap.size≤u0.heap.size):=Zh HS0.size;refine hK _ _ HS1.out ?_;clear hK K;generalize u0.alloc (.cells #[] 3)=u1 at *;generalize u0.heap.size=g1 at *;refine nm ?_;refine Zo 9 fun K hK=>?_;have HB3:Hid (Below w.heap.size w u1):=Zh (HB2.trans (HS1.below HB2.size fun k hk=>by rw [hk];exact HW1.out.1));refine Jhi _ _ (some 12) rfl rfl HO1.out HU1.out (HI.below HB3.out) (by simp only [List.length_nil,HN.out];have:=HL.out;omega) rfl rfl ?_;intro tv u2 ho hb;rw [List.nil_append] at ho;have HO2:=Zh ho;have HS2:Hid (Only (fun k=>k=r) w2 u2):=Zh (HS1.then (Only.of_belowB hb) fun j hj=>.inr (Nat.le_trans HUW.out hj));have HR2:=Zh (HR1.below hb HUR.out);obtain⟨ta,tc,htv⟩:=ho.ints.form;rw [HN.out] at htv;subst htv;refine hK _ _ HS2.out ?_;clear hK K ho hb;refine nm ?_;refine th 10 13 (.agg #[.int .i64 a.seg,.int .i64 a.off,.int .u32 a.seq,.slice ta n tc]) HS2.out ?_ (hy:=fun wq hS=>by exact J8 _ _ _ _ 90 _ rfl #[(0,.int .i64 a.seg),(1,.int .i64 a.off),(2,.int .u32 a.seq),(3,.slice ta n tc)] (by simp only [List.map_toArray,List.map_cons,List.map_nil];rfl) _ (run_build wq 90 _ _ (Je3 _ _ _ _ _ _)));refine Zo 11 fun K hK=>?_
 refine Jw 90 _ _ rfl r #[.int .i64 a.seg,.int .i64 a.off,.int .u32 a.seq,.slice ta n tc] rfl rfl _ HR2.out rfl Jae (Kg _ _ _ _ _ _) ?_;intro u3 hD hO;have HD:=Zh hD;have HS3:Hid (Only (fun k=>k=r) w2 u3):=Zh (HS2.trans hO);have HO3:=Zh (HO2.onlyN hO HUR.out);refine hK _ _ HS3.out ?_;clear hK K hD hO;refine nm ?_;refine Zd ?_;have HB4:Hid (Below w.heap.size w u3):=Zh (HB2.trans (HS3.below HB2.size fun k hk=>by rw [hk];exact HW1.out.1))
 go_wp2_with fail
 refine bodyPost_ret (v:=.agg #[.int .i64 a.seg,.int .i64 a.off,.int .u32 a.seq,.slice ta n tc]) (Jp rfl _ _ r 0 _ _ rfl Tryz.underlying90 rfl Jae (HD.all rfl)) rfl ⟨_,rfl,HO3.mono (Nat.le_trans HB2.size HUW.out),HB4.out⟩
theorem Jag(a:Ja)(fv gv:Value)(hl:a.free.length≤1000)(h:IntsAt w fv a.free)(k:IntsAt w gv a.free):Calls Tryz.prog 25 #[.agg #[.int .i64 a.seg,.int .i64 a.off,.int .u32 a.seq,fv],.agg #[.int .i64 a.seg,.int .i64 a.off,.int .u32 a.seq,gv]] w (Zr w (.bool true)):=by
 obtain⟨fa,fc,hfv⟩:=h.form;obtain⟨ga,gc,hgv⟩:=k.form;obtain⟨n,hnn⟩:∃n,a.free.length=n:=⟨_,rfl⟩
 rw [hnn] at hfv hgv;subst hfv;subst hgv;have HI:=Zh h;have HK:=Zh k;have HIA:=Zh fun sv tv w h k=>zc a.free a.free hl hl sv tv w h k;rw [decide_eq_true (rfl:a.free=a.free)] at HIA;clear h k hl hnn;go_enter Tryz.func25,Tryz.ntmps25;go_upto_region 0 with fail;refine Zl ?_;refine JV rfl rfl ?_;refine nm ?_;intro w1 hV hb hl;refine nm ?_;have HV:=Zh hV;have HB:=Zh hb;have HLT:Hid (w.heap.size<w1.heap.size):=Zh hl;clear hV hb hl;refine JV rfl rfl ?_;refine nm ?_;intro w2 hV hb hl;refine nm ?_;have HR:=Zh hV;have HV2:=Zh (HV.below hb HV.lt);have HB2:=Zh (Jk HB.out hb);clear hV hb hl HV HB;generalize w1.heap.size=r at *;refine tk (.bool false) ?_;refine Zn ?_;have q0:=HV2.cell (i:=0) rfl;have q1:=HV2.cell (i:=1) rfl;have q2:=HV2.cell (i:=2) rfl;have q3:=HV2.cell (i:=3) rfl;have p0:=HR.cell (i:=0) rfl;have p1:=HR.cell (i:=1) rfl;have p2:=HR.cell (i:=2) rfl;have p3:=HR.cell (i:=3) rfl
 go_wp2_with fail
 refine (HIA.out _ _ _ (HI.below HB2.out) (HK.below HB2.out)).mono ?_;rintro e w3 ⟨rfl,hb⟩;have HB3:=Zh (Jk HB2.out hb);clear q0 q1 q2 q3 p0 p1 p2 p3 hb
 go_wp2_with fail
 go_ret;exact⟨rfl,HB3.out⟩
end
theorem Jn.other{W w w':World}{jb b kb:Nat}{F:Nat→Prop}{d:De.D}{g:Pl.Gm}{a:Ja}{fv:Value}(h:Jn W w jb b F d g a fv)(ho:Only (fun k=>k=kb) w w')(hW:W.heap.size≤kb)(hF:¬F kb)(hj:¬kb=jb)(hs:∀b' o n c,fv=.slice (some ⟨b',o,none⟩) n c→¬b'=kb):Jn W w' jb b F d g a fv :=
 h.turnS ho (fun k hk=>by rw [hk];exact hW) (fun k hk e=>hF (by rw [←e];exact hk)) (h.blk.only ho fun e=>hj e.symm) (h.fr.onlyF ho fun b' o n c e hk=>hs b' o n c e hk)
  (fun b' o n c e=>let ⟨h1,h2,h3,h4⟩:=h.sep b' o n c e;⟨h1,h2,h3,Nat.lt_of_lt_of_le h4 ho.size⟩) h.good h.seq h.cp
variable {i k n:Nat} {l:List Int} {p q:Int}
theorem J6e{n:Int}{l:List It}{x:Int}(h:(Js n l k).2[i]? = some x):x<(Js n l k).1.length:=by
 have hil:=(Zg h).1;rw [ZJ] at hil;obtain⟨v,h1,h2,h3⟩:=xo (n:=n) (List.getElem?_eq_getElem hil);rw [h] at h1;cases h1;cases hh:((l.take (24*k))[i]).has
 · have:=h2 hh;omega
 · have:=h3 hh;omega
theorem Xp{g:Pl.Gm}{seg:Int}(h:KF g seg l=true):seg ∉ l:=fun hm=>by
 obtain⟨i,hi⟩:=List.getElem?_of_mem hm;have hil:=(Zg hi).1;have:=QN h i hil;unfold okAt at this;simp only [Bool.and_eq_true,Bool.not_eq_true',decide_eq_false_iff_not] at this;exact this.1.2 (by rw [List.getD_eq_getElem?_getD,hi];rfl)
theorem YA{l s c:Int}(hl:0<l)(h0:0≤c)(h1:c<l):(s*l+c)/l=s∧(s*l+c)%l=c:=by
 constructor
 · rw [Int.add_comm,Int.add_mul_ediv_right _ _ (by omega),Int.ediv_eq_zero_of_lt h0 h1];omega
 · rw [Int.add_comm,Int.add_mul_emod_self_right,Int.emod_eq_of_lt h0 h1]
def QV(g:Pl.Gm)(a:Ja)(p:Int):Prop:=((p-4)/g.l=a.seg∧(p-4)%g.l<a.off)∨(¬(p-4)/g.l=a.seg∧(p-4)/g.l ∉ a.free)
def ZX(a a1:Ja):Prop:=a1=a∨∃f r,a.free=f::r∧a1=⟨f,0,a.seq,r⟩
theorem J28{g:Pl.Gm}{a a1:Ja}(e:QE g a n=some a1):ZX a a1:=by
 unfold QE at e;split at e
 · injection e with e
   exact .inl e.symm
 · split at e
   · cases e
   · rename_i f r hf
     injection e with e
     exact .inr ⟨f,r,hf,e.symm⟩
theorem YB{g:Pl.Gm}{a a1:Ja}(h:Nx g a a1 n){x:Int}(h0:0≤x)(h1:x<n):(J6 g a1+x-4)/g.l=a1.seg∧(J6 g a1+x-4)%g.l=a1.off+x:=by
 have:=h.off;have e:J6 g a1+x-4=a1.seg*g.l+(a1.off+x):=by unfold J6;omega
 rw [e];exact YA (by omega) (by omega) (by omega)
theorem Je4{g:Pl.Gm}{a a1:Ja}(hg:a.good g=true)(h:Nx g a a1 n)(hs:ZX a a1){x:Int}(h0:0≤x)(h1:x<n)(hm:QV g a p):¬p=J6 g a1+x:=by
 rintro rfl;obtain⟨e1,e2⟩:=YB h h0 h1;unfold QV at hm;rw [e1,e2] at hm;rcases hs with rfl|⟨f,r,hf,rfl⟩
 · rcases hm with ⟨-,hm⟩|⟨hm,-⟩
   · omega
   · exact hm rfl
 · have hno:=Xp (Ja.good_parts hg).2.2.2.2;rw [hf] at hno hm;rcases hm with ⟨hm,-⟩|⟨-,hm⟩
   · exact hno (by rw [←show f=a.seg from hm];exact List.mem_cons_self)
   · exact hm List.mem_cons_self
theorem ye{g:Pl.Gm}{a a1:Ja}(hg:a.good g=true)(h:Nx g a a1 n)(hs:ZX a a1)(hm:QV g a p):QV g ⟨a1.seg,a1.off+n,q,a1.free⟩ p:=by
 unfold QV at hm ⊢;rcases hs with rfl|⟨f,r,hf,rfl⟩
 · rcases hm with ⟨h1,h2⟩|hm
   · exact .inl ⟨h1,by simp only;omega⟩
   · exact .inr hm
 · have hfo:=(Ja.good_parts hg).2.2.2.2;have hno:=Xp hfo;rw [hf] at hno hm hfo;have hfr:=Xp (Yz hfo).2;simp only;rcases hm with ⟨h1,h2⟩|⟨h1,h2⟩
   · rw [h1];exact .inr ⟨fun e=>hno (by rw [e];exact List.mem_cons_self),fun e=>hno (List.mem_cons_of_mem _ e)⟩
   · exact .inr ⟨fun e=>h2 (by rw [e];exact List.mem_cons_self),fun e=>h2 (List.mem_cons_of_mem _ e)⟩
theorem yf{g:Pl.Gm}{a a1:Ja}(h:Nx g a a1 n){x:Int}(h0:0≤x)(h1:x<n):QV g ⟨a1.seg,a1.off+n,q,a1.free⟩ (J6 g a1+x):=by
 obtain⟨e1,e2⟩:=YB h h0 h1;unfold QV;rw [e1,e2];exact .inl ⟨rfl,by simp only;omega⟩
end Go.Proofs.YtdbfmikeaoaebaaGreatDoor
