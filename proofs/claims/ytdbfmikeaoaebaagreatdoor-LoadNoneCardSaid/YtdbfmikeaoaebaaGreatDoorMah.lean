/- Steps. -/
import Derived.Test.YtdbfmikeaoaebaaGreatDoorMag
import Derived.Lib.EndianBits
import Derived.OrdersHeld
import Derived.Deep.Upon
import Derived.Lib.AppendZeros
import Derived.Deep.Cut
import Derived.Deep.CutRange
import Derived.Maps.AppendAt
import Derived.Great.BuildSlice
import Derived.Great.FillDense
import Derived.BigQuiet
import Derived.Deep.QuietTactic
import Derived.RegionTactic
import Derived.Laws.BytesArg
set_option linter.unusedSimpArgs false
set_option linter.unusedVariables false
set_option maxRecDepth 100000
set_option maxHeartbeats 4000000
namespace Go.Proofs.YtdbfmikeaoaebaaGreatDoor
open Go.RowKit
variable {cs:Array Value} {g i k n:Nat} {l:List Int} {sv:Value} {t:TypeId} {w:World} {y:Operand}
theorem yn{l:List Mk}{m:Mk}(h:l[k]? = some m):Jy (l.take (k+1))=Jy (l.take k)+if JA m.1 then 1 else 0:=by
 rw [List.take_add_one,h,YT];simp [Jy]
theorem J0c(l:List Int)(n k:Nat):(l++zeros n).getD k 0=l.getD k 0:=by
 simp only [List.getD_eq_getElem?_getD]
 by_cases h:k<l.length
 · rw [List.getElem?_append_left h]
 · rw [List.getElem?_append_right (by omega),List.getElem?_eq_none (l:=l) (by omega),zeros,List.getElem?_replicate];split <;> rfl
def J77(x:List Int):Int:=num ((x.drop 2).take 4)
def Kp(x:List Int)(n:Nat):List Mk:=(List.range n).map fun i=>(x.getD (7+2*i) 0,x.getD (8+2*i) 0)
theorem KE(x:List Int)(n:Nat):(Kp x n).length=n:=by simp [Kp]
theorem J0d(x:List Int)(h:i<n):(Kp x n)[i]? = some (x.getD (7+2*i) 0,x.getD (8+2*i) 0):=by simp [Kp,h]
theorem xg(x:List Int)(n:Nat):Kp x (n+1)=Kp x n++[(x.getD (7+2*n) 0,x.getD (8+2*n) 0)]:=by simp [Kp,List.range_succ]
def J5(x:List Int):Sm:=⟨J77 x,decide (x.getD 1 0≠0),Kp x (min 24 (x.getD 6 0).toNat)⟩
def KF(x:List Int):Bool:=(J5 x).good&&decide ((J5 x).enc=x)
def ZT(x:List Int):Sm:=if KF x then J5 x else Sm.none
def ji(x:List Int):Int:=if KF x then 0 else 11
theorem yp(s:Sm)(k:Nat):s.enc.getD (7+k) 0=(flat s.marks).getD k 0:=by
 have e:s.enc.getD (7+k) 0=(flat s.marks++zeros (57-2*s.marks.length)).getD k 0:=by
  simp only [List.getD_eq_getElem?_getD,Sm.enc];rw [List.getElem?_append_right (by rw [Qz]; omega),Qz,show 7+k-7=k by omega]
 rw [e,J0c]
theorem J78(s:Sm)(i:Nat):s.enc.getD (7+2*i) 0=(s.marks.getD i (0,0)).1:=by
 rw [yp];simp only [List.getD_eq_getElem?_getD,ka];cases s.marks[i]? <;> rfl
theorem Jen(s:Sm)(i:Nat):s.enc.getD (8+2*i) 0=(s.marks.getD i (0,0)).2:=by
 rw [show 8+2*i=7+(2*i+1) by omega,yp];simp only [List.getD_eq_getElem?_getD,kc];cases s.marks[i]? <;> rfl
theorem Jgi(s:Sm):s.enc.getD 1 0=bit s.more:=rfl
theorem Je1(s:Sm):s.enc.getD 6 0=s.marks.length:=rfl
theorem J79(s:Sm):(s.enc.drop 2).take 4=le 4 s.seq:=rfl
theorem J3u(s:Sm):Kp s.enc s.marks.length=s.marks:=by
 apply List.ext_getElem?;intro i
 by_cases h:i<s.marks.length
 · rw [J0d _ h,J78,Jen,List.getD_eq_getElem?_getD,List.getElem?_eq_getElem h];rfl
 · rw [List.getElem?_eq_none (by rw [KE]; omega),List.getElem?_eq_none (by omega)]
theorem qw{s:Sm}(h:s.good=true)(w:s.Wf):J5 s.enc=s:=by
 have hl:=QL h;obtain⟨seq,more,marks⟩:=s;unfold J5 J77;rw [J79,Jgi,Je1,J2d _ w.seq];simp only [Int.toNat_natCast];have e:min 24 marks.length=marks.length:=Nat.min_eq_right hl.2;have e2:=J3u ⟨seq,more,marks⟩;simp only at e2 hl ⊢;rw [e,e2];cases more <;> rfl
theorem J3v{s:Sm}(h:s.good=true)(w:s.Wf):KF s.enc=true:=by
 simp [KF,qw h w,h]
theorem yq{x:List Int}(h:KF x=true)(hb:0≤x.getD 6 0):x.getD 6 0≤24:=by
 simp only [KF,Bool.and_eq_true,decide_eq_true_eq] at h;have e:=h.2;have e6:(J5 x).enc.getD 6 0=(J5 x).marks.length:=Je1 _;rw [e] at e6;simp only [J5,KE] at e6;omega
theorem YW{x:List Int}(h:Sc x)(n:Nat):∀m∈Kp x n,Jo m.1∧Jo m.2:=fun m hm=>by
 obtain⟨i,_,rfl⟩:=List.mem_map.1 hm;have h1:=sc_byte h (7+2*i);have h2:=sc_byte h (8+2*i);exact⟨⟨by simp only; omega,by simp only; omega⟩,⟨by simp only; omega,by simp only; omega⟩⟩
theorem J0e{x:List Int}(h:Sc x):(J5 x).Wf:=⟨jh h,YW h _⟩
theorem J0f(sv:Value)(l:List Mk)(hl:l.length≤1000000)(w:World)(h:MarksAt w sv l):Calls Tryz.prog 190 #[sv] w (Zr w (.int .i64 (Jy l))):=by
 obtain⟨a,cap,rfl,hc⟩:=id h;have HC:=Zh hc;clear h hc;go_enter Tryz.func190,Tryz.ntmps190
 go_wp2_with fail
 go_loopg [3,10] l.length (fun q n i wr=>∃k:Nat,l.length-k≤q∧k≤l.length∧i=.int .i64 k∧n=.int .i64 (Jy (l.take k))∧Below w.heap.size w wr)
 case atStart=>exact⟨0,by omega,by omega,rfl,rfl,Below.refl _ _⟩
 case round =>
  obtain⟨k,hg,hk,rfl,rfl,hbel⟩:=hrel;have HB:=Zh hbel;clear hbel
  by_cases hlt:k<l.length
  · obtain⟨b,o,rfl,h1,h2⟩:=HC.out k l[k] (by simp [hlt]);have c1:=(HB.cell (block_lt_of_cell h1)).trans h1;have c2:=(HB.cell (block_lt_of_cell h2)).trans h2;have HBS:=Zh (yn (l:=l) (k:=k) (m:=l[k]) (by simp [hlt]));have hle:=X4 (l.take k);have hle2:(l.take k).length≤k:=by simp; omega
    clear h1 h2;generalize l[k]=m at *;obtain⟨mk,mi⟩:=m;simp only at c1 c2;have hk0:(0:Int)≤(k:Int):=by omega
    have hk1:(k:Int)<(l.length:Int):=by omega
    have HK:=Zh fun w=>kd mk w
    go_wp2_with fail
    refine (HK.out _).mono ?_;rintro e w1 ⟨rfl,rfl⟩;cases hh:JA mk
    case false =>
     have HBQ:=HBS.out;simp only [hh,Bool.false_eq_true,if_false,Nat.add_zero] at HBQ;have HBQ:=Zh HBQ;clear HBS
     go_wp2_with fail
     go_roundg (l.length-(k+1))
     case measure=>omega
     case rel=>exact⟨k+1,by omega,by omega,by go_num,by rw [HBQ.out],HB.alloc HB.size _⟩
    case true =>
     have HBQ:=HBS.out;simp only [hh,if_true] at HBQ;have HBQ:=Zh HBQ;clear HBS
     go_wp2_with fail
     go_roundg (l.length-(k+1))
     case measure=>omega
     case rel=>exact⟨k+1,by omega,by omega,by go_num,by rw [HBQ.out]; go_num,HB.alloc HB.size _⟩
  · have hkl:k=l.length:=by omega
    subst hkl;have HE:=Zh (show Jy (l.take l.length)=Jy l by rw [List.take_length]);clear hlt
    go_wp2_with fail
    go_ret;exact⟨by first | (rw [HE.out]; done) | (rw [HE.out]; rfl),HB.out⟩
theorem J7a(n:Nat)(hn:n<256)(w:World):(Instr.makeSlice 297 (.int .u8 n) (.int .u8 n)).run Tryz.prog w=.ok (.slice (some ⟨w.heap.size,0,none⟩) n n) (w.alloc (.cells (madeCells #[.int .i64 0,.int .i64 0] (n*2)) 79)):=by
 obtain⟨i,hi,hz,hs,hb⟩:∃i,Tryz.prog.info? 79=some i∧i.zero=some (.agg #[.int .i64 0,.int .i64 0])∧i.size=2∧i.bytes=16:=by
  have:=J6i;cases hq:Tryz.prog.info? 79 with
  | none=>simp [hq] at this
  | some i=>simp [hq] at this; exact⟨i,rfl,this⟩
 have hr:=run_makeSlice (P:=Tryz.prog) w 297 79 i (.agg #[.int .i64 0,.int .i64 0]) Tryz.underlying297 hi hz .u8 .u8 n n (by omega) (Int.le_refl _) (by rw [hs]; omega) (by rw [hb]; omega) (by omega);simpa [hs,Value.cells] using hr
structure sRT (W w:World) (g r t m:Nat) (x:List Int) (q:Int) (b:Bool) (n:Nat) (l:List Int):Prop where
 sec:Blk w g (u8s x)
 res:Blk w r [.int .u32 0,.bool false,.slice none 0 0]
 var:Blk w t [.int .u32 q,.bool b,.slice (some ⟨m,0,none⟩) n n]
 row:Blk w m (Jq l)
 bel:Below W.heap.size W w
 g0:W.heap.size≤g
 gr:g<r
 rt:r<t
 rm:r<m
 tm:t≠m
section
variable {W w w':World} {g r t m:Nat} {x:List Int} {q:Int} {b:Bool} {n:Nat} {l:List Int}
theorem sRT.below(h:sRT W w g r t m x q b n l)(hb:Below w.heap.size w w'):sRT W w' g r t m x q b n l :=
 ⟨h.sec.below hb h.sec.lt,h.res.below hb h.res.lt,h.var.below hb h.var.lt,h.row.below hb h.row.lt,h.bel.trans (hb.mono h.bel.size),h.g0,h.gr,h.rt,h.rm,h.tm⟩
theorem sRT.drew(h:sRT W w g r t m x q b n l):sRT W w.drew g r t m x q b n l:=h.below (Below.refl _ _).drew
theorem sRT.setq(h:sRT W w g r t m x q b n l)(v p:Int)(e:v=p):sRT W (w.setCell ⟨t,0,none⟩ (.int .u32 v)) g r t m x p b n l:=by
 subst e;have ho:Only (fun k=>k=t) w (w.setCell ⟨t,0,none⟩ (.int .u32 v)):=(Only.refl (fun k=>k=t) w).setCell (p:=⟨t,0,none⟩) (.inl rfl) _;exact⟨h.sec.only ho (by have:=h.gr; have:=h.rt; omega),h.res.only ho (by have:=h.rt; omega),h.var.set 0 _,h.row.only ho (fun e=>h.tm e.symm),h.bel.trans (ho.below h.bel.size (fun k hk=>by have:=h.g0; have:=h.gr; have:=h.rt; omega)),h.g0,h.gr,h.rt,h.rm,h.tm⟩
theorem sRT.setm(h:sRT W w g r t m x q b n l)(i:Nat)(v:Int):sRT W (w.setCell ⟨m,i,none⟩ (.int .i64 v)) g r t m x q b n (l.set i v):=by
 have ho:Only (fun k=>k=m) w (w.setCell ⟨m,i,none⟩ (.int .i64 v)):=(Only.refl (fun k=>k=m) w).setCell (p:=⟨m,i,none⟩) (.inl rfl) _;refine⟨h.sec.only ho (by have:=h.gr; have:=h.rm; omega),h.res.only ho (by have:=h.rm; omega),h.var.only ho h.tm,?_,h.bel.trans (ho.below h.bel.size (fun k hk=>by have:=h.g0; have:=h.gr; have:=h.rm; omega)),h.g0,h.gr,h.rt,h.rm,h.tm⟩;have:=h.row.set i (.int .i64 v)
 rwa [←List.map_set] at this
end
theorem Q9:(Tryz.prog.info? 300).map (·.size)=some 3:=by kernel_rfl
theorem Xc(n:Int)(b:Bool)(a:Option Addr)(k cap:Nat):∀v∈(#[.int .u32 n,.bool b,.slice a k cap]:Array Value),v.oneCell'=true:=fun v hv=>by
 simp only [List.mem_toArray,List.mem_cons,List.not_mem_nil,or_false] at hv;rcases hv with rfl | rfl | rfl <;> rfl
section
variable {ops:Array Oper} {rest:List Oper} {dst:Option Tmp} {x y:Operand} {t2:TypeId} {pos:String} {after:Array Edge} {guard:Option (Nat×Bool)} {a:Act} {w:World} {Q:Exit→Act→World→Prop}
theorem xh{off:Nat}(hA:At w g off cs)(hs:cs.size=3)(hx:a.eval x=.pointer (some ⟨g,off,none⟩))(hw:Region.wanted ⟨dst,.load 300 x,t2,pos,after,guard⟩ (yielded ops a.tmps)=true)(h:wpList Tryz.prog ops Q rest (a.put dst (.agg cs)) w):wpList Tryz.prog ops Q (⟨dst,.load 300 x,t2,pos,after,guard⟩::rest) a w :=
 Jb hw 300 x rfl g off hx cs _ Tryz.underlying300 rfl (by rw [hs]; exact Q9) hA h
end
theorem Zx(w:World)(a b:Array Value)(s u:TypeId):Blk ((w.alloc (.cells a s)).alloc (.cells b u)).drew w.heap.size a.toList∧Blk ((w.alloc (.cells a s)).alloc (.cells b u)).drew (w.heap.size+1) b.toList∧Below w.heap.size w ((w.alloc (.cells a s)).alloc (.cells b u)).drew:=by
 refine⟨((Blk.new w a s).alloc _).drew,?_,(((Below.refl _ _).alloc (Nat.le_refl _) _).alloc (by simp) _).drew⟩;have:=Blk.new (w.alloc (.cells a s)) b u;simpa using this.drew
theorem J7b(x:List Int)(h:Sc x):∃a0 a1 a2 a3,x.getD 2 0=a0∧x.getD 3 0=a1∧x.getD 4 0=a2∧x.getD 5 0=a3∧(x.drop 2).take 4=[a0,a1,a2,a3]:=by
 refine⟨_,_,_,_,rfl,rfl,rfl,rfl,?_⟩;have hl:=h.length;apply List.ext_getElem
 · simp [hl]
 · intro i h1 h2;have hi:i<4:=by simpa using h2
   rcases (show i=0∨i=1∨i=2∨i=3 by omega) with rfl | rfl | rfl | rfl <;> simp [hl]
theorem J7c(x:List Int)(hk:k<n):((flat (Kp x k)++zeros ((n-k)*2)).set (k*2) (x.getD (7+2*k) 0)).set (k*2+1) (x.getD (8+2*k) 0)=flat (Kp x (k+1))++zeros ((n-(k+1))*2):=by
 have hz:zeros ((n-k)*2)=0::0::zeros ((n-(k+1))*2):=by
  rw [show (n-k)*2=(n-(k+1))*2+1+1 by omega];rfl
 have hf:(flat (Kp x k)).length=k*2:=by rw [K7,KE]; omega
 rw [hz,xg,Yh,List.set_append_right _ _ (by omega),List.set_append_right _ _ (by omega),hf,Nat.sub_self,show k*2+1-k*2=1 by omega];simp [flat]
theorem J3w(x:List Int)(hx:Sc x)(h6:x.getD 6 0≤24)(w:World):Calls Tryz.prog 191 #[.agg (u8s x).toArray] w fun e w'=>∃sv,e=.returned (.agg #[.int .u32 (J5 x).seq,.bool (J5 x).more,sv])∧MarksAt w' sv (J5 x).marks∧Below w.heap.size w w'∧Fresh w.heap.size sv:=by
 have HX:=Zh hx;obtain⟨h60,_⟩:=sc_byte hx 6;obtain⟨n,hn⟩:∃n:Nat,x.getD 6 0=n:=⟨(x.getD 6 0).toNat,by omega⟩
 have HN:=Zh hn;have hn24:n≤24:=by omega
 have HMK:=Zh hn;have hmk:=J7a n (by omega);clear hx hn h6 h60;go_enter Tryz.func191,Tryz.ntmps191
 repeat (first | (with_reducible refine JL (id:=0) ?_) | go_values | go_skip | go_guarded | go_step | go_upon | go_back)
 refine Stop.mk (wp_region_lit ?_);refine JT rfl rfl ?_;intro wA hA hB hl1;refine nm ?_;refine J4 (cs:=#[.int .u32 0,.bool false,.slice none 0 0]) (by kernel_rfl) rfl ?_;intro wB hR hB2 hl2;refine nm ?_;have HA:=Zh (hA.below hB2 hl1);have HR:=Zh hR;have HB:=Zh (hB.trans (hB2.mono hB.size));have HLT:Hid (w.heap.size<wA.heap.size∧wA.heap.size<wB.heap.size):=Zh ⟨hl1,hl2⟩;clear hA hB hl1 hR hB2 hl2;generalize hgg:w.heap.size=g at *;generalize hrr:wA.heap.size=r at *;have HGG:=Zh hgg;clear hgg hrr wA;refine Zn ?_;have c1:wB.cell? ⟨g,1,none⟩=some (.int .u8 (x.getD 1 0)):=HA.cell (Kf HX.out (by decide));have c6:wB.cell? ⟨g,6,none⟩=some (.int .u8 (n:Int)):=by rw [←HN.out]; exact HA.cell (Kf HX.out (by decide))
 obtain⟨y,hy⟩:∃y,x.getD 1 0=y:=⟨_,rfl⟩
 have HY:=Zh hy;rw [hy] at c1;clear hy;have HRT:=Zh (fun (t m:Nat) (b:Bool) (w':World) (hb:Below wB.heap.size wB w') (h1:Blk w' t [.int .u32 0,.bool b,.slice (some ⟨m,0,none⟩) n n]) (h2:Blk w' m (Jq (zeros (n*2)))) (ht:wB.heap.size≤t) (hm:wB.heap.size≤m) (hne:t≠m) =>
  show sRT w w' g r t m x 0 b n (zeros (n*2)) from ⟨HA.below hb HA.lt,HR.below hb HR.lt,h1,h2,by have:=HB.trans (hb.mono (by have:=HB.size; have:=HGG.out; omega)); first | exact this | (rw [HGG.out]; exact this),by have:=HGG.out; omega,HLT.out.1,by have:=HLT.out.2; omega,by have:=HLT.out.2; omega,hne⟩)
 go_upto_region 1 with fail
 go_cut [3] from 7 to 14 (fun s3 wx=>∃t m,s3=.pointer (some ⟨t,0,none⟩)∧sRT w wx g r t m x 0 (decide (y≠0)) n (zeros (n*2)))
 case first =>
  have c1o:∀o,(wB.alloc o).cell? ⟨g,1,none⟩=some (.int .u8 y):=fun o=>(((Below.refl _ _).alloc (Nat.le_refl _) o).cell (block_lt_of_cell c1)).trans c1;have c6o:∀o,(wB.alloc o).cell? ⟨g,6,none⟩=some (.int .u8 (n:Int)):=fun o=>(((Below.refl _ _).alloc (Nat.le_refl _) o).cell (block_lt_of_cell c6)).trans c6;have c1p:∀o o',((wB.alloc o).alloc o').cell? ⟨g,1,none⟩=some (.int .u8 y):=fun o o'=>(((Below.refl _ _).alloc (Nat.le_refl _) o').cell (block_lt_of_cell (c1o o))).trans (c1o o);have c6p:∀o o',((wB.alloc o).alloc o').cell? ⟨g,6,none⟩=some (.int .u8 (n:Int)):=fun o o'=>(((Below.refl _ _).alloc (Nat.le_refl _) o').cell (block_lt_of_cell (c6o o))).trans (c6o o)
  by_cases hy0:y=0
  · subst hy0
    go_region
    · go_wp2_with fail
      go_meet
      refine⟨wB.heap.size+1,wB.heap.size,rfl,?_⟩;obtain⟨q1,q2,q3⟩:=Zx wB (madeCells #[.int .i64 0,.int .i64 0] (n*2)) #[.int .u32 0,.bool false,.slice (some ⟨wB.heap.size,0,none⟩) n n] 79 300;rw [X7] at q1;exact HRT.out _ _ false _ q3 q2 q1 (by omega) (by omega) (by omega)
    · go_wp2_with fail
      go_meet
      refine⟨wB.heap.size,wB.heap.size+1,rfl,?_⟩;obtain⟨q1,q2,q3⟩:=Zx wB #[.int .u32 0,.bool false,.slice (some ⟨wB.heap.size+1,0,none⟩) n n] (madeCells #[.int .i64 0,.int .i64 0] (n*2)) 300 79;rw [X7] at q2;exact HRT.out _ _ false _ q3 q1 q2 (by omega) (by omega) (by omega)
  · go_region
    · go_wp2_with fail
      go_meet
      refine⟨wB.heap.size+1,wB.heap.size,rfl,?_⟩;obtain⟨q1,q2,q3⟩:=Zx wB (madeCells #[.int .i64 0,.int .i64 0] (n*2)) #[.int .u32 0,.bool true,.slice (some ⟨wB.heap.size,0,none⟩) n n] 79 300;rw [X7] at q1;rw [show decide (y≠0)=true from decide_eq_true hy0,show (y != 0)=true from by simp [hy0]];exact HRT.out _ _ true _ q3 q2 q1 (by omega) (by omega) (by omega)
    · go_wp2_with fail
      go_meet
      refine⟨wB.heap.size,wB.heap.size+1,rfl,?_⟩;obtain⟨q1,q2,q3⟩:=Zx wB #[.int .u32 0,.bool true,.slice (some ⟨wB.heap.size+1,0,none⟩) n n] (madeCells #[.int .i64 0,.int .i64 0] (n*2)) 300 79;rw [X7] at q2;rw [show decide (y≠0)=true from decide_eq_true hy0,show (y != 0)=true from by simp [hy0]];exact HRT.out _ _ true _ q3 q1 q2 (by omega) (by omega) (by omega)
 case rest =>
  obtain⟨t,m,rfl,hrt⟩:=hcut;have HRT:=Zh hrt;rw [show decide (y≠0)=(J5 x).more from by rw [←HY.out]; rfl] at HRT;clear c1 c6 HY hmk hrt HA HR HB HLT;generalize hbb:(J5 x).more=b at *;obtain⟨a0,a1,a2,a3,e0,e1,e2,e3,hseq⟩:=J7b x HX.out;obtain⟨p0,q0⟩:=sc_byte HX.out 2;obtain⟨p1,q1⟩:=sc_byte HX.out 3;obtain⟨p2,q2⟩:=sc_byte HX.out 4;obtain⟨p3,q3⟩:=sc_byte HX.out 5;rw [e0] at p0 q0;rw [e1] at p1 q1;rw [e2] at p2 q2;rw [e3] at p3 q3;have HA0:=Zh e0;have HA1:=Zh e1;have HA2:=Zh e2;have HA3:=Zh e3;have HSQ:=Zh (show (J5 x).seq=num [a0,a1,a2,a3] from by rw [←hseq]; rfl);have HBB:=Zh hbb;clear e0 e1 e2 e3 hseq hbb
  go_wp2_with fail
  go_loopg [14] 4 (fun q i wr=>∃k:Nat,4-k≤q∧k≤4∧i=.int .i64 k∧sRT w wr g r t m x (num ([a0,a1,a2,a3].take k)) b n (zeros (n*2)))
  case atStart=>exact⟨0,by omega,by omega,rfl,HRT.out⟩
  case round =>
   obtain⟨k,hgk,hk,rfl,hr⟩:=hrel;have HR:=Zh hr;clear hr HRT;rcases (show k=0∨k=1∨k=2∨k=3∨k=4 by omega) with rfl | rfl | rfl | rfl | rfl
   · have cg:wr.cell? ⟨g,2,none⟩=some (.int .u8 a0):=by rw [←HA0.out]; exact HR.sec.cell (Kf HX.out (by decide))
     have ct:=HR.var.cell (i:=0) rfl;have ft:=HR.var.frozen 0;simp only [List.take_succ_cons,List.take_zero,num] at ct;go_upto_region 5 with fail
     go_region
     go_wp2_with fail
     go_roundg (4-1)
     case measure=>omega
     case rel =>
      refine⟨1,by omega,by omega,by go_num,?_⟩;refine sRT.drew ?_;refine HR.setq _ _ ?_;simp only [List.take_succ_cons,List.take_zero,num];rw [Zv _ (by omega)]; omega
   · have cg:wr.cell? ⟨g,3,none⟩=some (.int .u8 a1):=by rw [←HA1.out]; exact HR.sec.cell (Kf HX.out (by decide))
     have ct:=HR.var.cell (i:=0) rfl;have ft:=HR.var.frozen 0;simp only [List.take_succ_cons,List.take_zero,num] at ct;go_upto_region 5 with fail
     go_region
     go_wp2_with fail
     go_roundg (4-2)
     case measure=>omega
     case rel =>
      refine⟨2,by omega,by omega,by go_num,?_⟩;refine sRT.drew ?_;refine HR.setq _ _ ?_;simp only [List.take_succ_cons,List.take_zero,num];rw [u32_or8 _ _ (by omega) (by omega) (by omega) (by omega) (by omega)]; omega
   · have cg:wr.cell? ⟨g,4,none⟩=some (.int .u8 a2):=by rw [←HA2.out]; exact HR.sec.cell (Kf HX.out (by decide))
     have ct:=HR.var.cell (i:=0) rfl;have ft:=HR.var.frozen 0;simp only [List.take_succ_cons,List.take_zero,num] at ct;go_upto_region 5 with fail
     go_region
     go_wp2_with fail
     go_roundg (4-3)
     case measure=>omega
     case rel =>
      refine⟨3,by omega,by omega,by go_num,?_⟩;refine sRT.drew ?_;refine HR.setq _ _ ?_;simp only [List.take_succ_cons,List.take_zero,num];rw [u32_or16 _ _ (by omega) (by omega) (by omega) (by omega) (by omega)]; omega
   · have cg:wr.cell? ⟨g,5,none⟩=some (.int .u8 a3):=by rw [←HA3.out]; exact HR.sec.cell (Kf HX.out (by decide))
     have ct:=HR.var.cell (i:=0) rfl;have ft:=HR.var.frozen 0;simp only [List.take_succ_cons,List.take_zero,num] at ct;go_upto_region 5 with fail
     go_region
     go_wp2_with fail
     go_roundg (4-4)
     case measure=>omega
     case rel =>
      refine⟨4,by omega,by omega,by go_num,?_⟩;refine sRT.drew ?_;refine HR.setq _ _ ?_;simp only [List.take_succ_cons,List.take_zero,num];rw [u32_or24 _ _ (by omega) (by omega) (by omega) (by omega) (by omega)]; omega
   · have ct:=HR.var.cell (i:=2) rfl;obtain⟨sq,hsq⟩:∃q,num ([a0,a1,a2,a3].take 4)=q:=⟨_,rfl⟩
     rw [hsq] at HR;have HQ:=Zh (show sq=(J5 x).seq from by rw [←hsq,HSQ.out]; rfl);clear hsq HSQ HA0 HA1 HA2 HA3;have hn0:(n:Int)≤24:=by omega
     go_wp2_with fail
     go_loopg [33] n (fun q i wq=>∃k:Nat,n-k≤q∧k≤n∧i=.int .i64 k∧sRT w wq g r t m x sq b n (flat (Kp x k)++zeros ((n-k)*2)))
     case atStart=>exact⟨0,by omega,by omega,rfl,HR.out⟩
     case round =>
      obtain⟨k,hgk,hk,rfl,hr⟩:=hrel;clear HR ct;have HR:=Zh hr;clear hr
      by_cases hlt:k<n
      · have HST:=Zh (J7c x hlt);have HC1:=HR.sec.cell (i:=7+k*2) (Kf HX.out (by omega));have HC2:=HR.sec.cell (i:=7+k*2+1) (Kf HX.out (by omega));obtain⟨b1,b2⟩:=sc_byte HX.out (7+k*2);obtain⟨b3,b4⟩:=sc_byte HX.out (7+k*2+1);rw [show 7+2*k=7+k*2 by omega,show 8+2*k=7+k*2+1 by omega] at HST;generalize x.getD (7+k*2) 0=mk at *;generalize x.getD (7+k*2+1) 0=mi at *;have hlen:(flat (Kp x k)++zeros ((n-k)*2)).length=n*2:=by
         rw [List.length_append,K7,KE,J1];omega
        have cm1:∃v,wr.cell? ⟨m,k*2,none⟩=some v:=⟨_,HR.row.cell (i:=k*2) (List.getElem?_eq_getElem (by rw [List.length_map,hlen]; omega))⟩
        have cm2:∃v,wr.cell? ⟨m,k*2+1,none⟩=some v:=⟨_,HR.row.cell (i:=k*2+1) (List.getElem?_eq_getElem (by rw [List.length_map,hlen]; omega))⟩
        obtain⟨v1,cm1⟩:=cm1;obtain⟨v2,cm2⟩:=cm2;have fm1:=HR.row.frozen (k*2);have fm2:=HR.row.frozen (k*2+1);have ct:=HR.var.cell (i:=2) rfl;clear hlen;have hk0:(0:Int)≤(k:Int):=by omega
        have hk1:(k:Int)<(n:Int):=by omega
        have hk2:(k:Int)<24:=by omega
        go_upto_region 11 with fail
        go_region
        go_wp2_with fail
        go_roundg (n-(k+1))
        case measure=>omega
        case rel =>
         refine⟨k+1,by omega,by omega,by go_num,?_⟩;have hs:=((HR.setm (k*2) mk).setm (k*2+1) mi).drew;rw [HST.out] at hs;exact hs
      · have hkl:k=n:=by omega
        subst hkl;have HR2:=HR.out;rw [show flat (Kp x k)++zeros ((k-k)*2)=flat (Kp x k) by rw [Nat.sub_self]; exact List.append_nil _] at HR2;have HR2:=Zh HR2;clear hlt HR;go_upto_region 13 with fail;refine Zl ?_;refine xh (cs:=#[.int .u32 sq,.bool b,.slice (some ⟨m,0,none⟩) k k]) (Blk.all HR2.var rfl) rfl rfl rfl ?_;refine nm ?_;refine J3 (cs:=#[.int .u32 sq,.bool b,.slice (some ⟨m,0,none⟩) k k]) HR2.res rfl Q9 (Xc _ _ _ _ _) rfl rfl rfl ?_;intro wZ hZ hOZ hlZ;refine nm ?_;have HF:=Zh (HR2.bel.trans (hOZ.below HR2.bel.size (fun k hk=>by have:=HR2.g0; have:=HR2.gr; omega)));have HROW:=Zh (HR2.row.only hOZ (by have:=HR2.rm; omega));go_wp2_with fail
        refine bodyPost_ret (v:=.agg #[.int .u32 sq,.bool b,.slice (some ⟨m,0,none⟩) k k]) (Jr rfl _ _ r 0 _ _ rfl Tryz.underlying300 rfl Q9 (hZ.all rfl)) rfl ⟨_,by rw [HQ.out,HBB.out],?_,by first | exact HF.out | (rw [HGG.out]; exact HF.out),fun b o n c e=>by
         have h1:=HR2.rm
         have h2:=HR2.gr
         have h3:=HR2.g0
         have h4:=HGG.out
         injection e with e1 e2 e3
         injection e1 with e4
         injection e4 with e5 e6 e7
         omega⟩
        have hn:(J5 x).marks=Kp x k:=by
         simp only [J5,HN.out,Int.toNat_natCast];rw [Nat.min_eq_right hn24]
        rw [hn];exact MarksAt.of_row HROW.out (KE x k)
theorem J3x(q:Int)(b:Bool)(a:Option Addr)(n cap:Nat):J6j [.int .u32 q,.bool b,.slice a n cap]:=fun i n m h _=>by
 match i with
 | 0=>simp at h
 | 1=>simp at h
 | 2=>simp at h
 | i+3=>simp at h
theorem J7d{l:List Mk}(h:MarksAt w sv l)(n:Int)(b:Bool):∀v∈(#[.int .u32 n,.bool b,sv]:Array Value),v.oneCell'=true:=by
 obtain⟨a,cap,rfl,_⟩:=h;exact Xc _ _ _ _ _
theorem Jeo:∃i,Tryz.prog.info? 5=some i∧i.size=1:=KQ X6
theorem Jb3:Tryz.prog.eqGuardType Tryz.prog.depth 36=false:=by kernel_rfl
theorem Jep{m:List Int}(hl:l.length=64)(hm:m.length=64)(ev:Operand→Value)(o:Oper)(w:World){x:Operand}(ho:o.op=.binOp .neq 36 x y t)(hx:ev x=.agg (u8s l).toArray)(hy:ev y=.agg (u8s m).toArray):(execOp ev o).run Tryz.prog w=.ok (.value (.bool (!decide (l=m)))) w:=by
 obtain⟨i,hi,hs⟩:=Jeo;have:=XT (P:=Tryz.prog) w 36 5 64 .u8 .u8 i l m Tryz.underlying36 Tryz.underlying5 hi hs hl hm;unfold execOp;simp only [ho,hx,hy,Sem.run_bind,run_eqGuard_agg w .neq 36 x y _ _ Jb3,Result.andThen_ok,this,Sem.run_pure]
theorem J7e:Tryz.prog.built 300 []=some #[.int .u32 0,.bool false,.slice none 0 0]:=by kernel_rfl
theorem kl(w:World):(Instr.build 300 #[]).run Tryz.prog w=.ok (.agg #[.int .u32 0,.bool false,.slice none 0 0]) w:=run_build w 300 _ _ J7e
theorem J2f:(Tryz.prog.info? 300).bind (·.zero)=some (.agg #[.int .u32 0,.bool false,.slice none 0 0]):=by kernel_rfl
theorem jN{x:List Int}(h:KF x=false):ZT x=Sm.none∧ji x=11:=by unfold ZT ji; rw [h]; exact⟨rfl,rfl⟩
theorem Zy{x:List Int}(h:KF x=true):ZT x=J5 x∧ji x=0:=by unfold ZT ji; rw [h]; exact⟨rfl,rfl⟩
theorem yr(x:List Int)(hx:Sc x)(w:World):Calls Tryz.prog 188 #[.agg (u8s x).toArray] w fun e w'=>∃sv,e=.returned (.tuple #[.agg #[.int .u32 (ZT x).seq,.bool (ZT x).more,sv],.int .i64 (ji x)])∧MarksAt w' sv (ZT x).marks∧Below w.heap.size w w'∧Fresh w.heap.size sv:=by
 have HX:=Zh hx;have HXL:=Zh hx.length;obtain⟨h60,h61⟩:=sc_byte hx 6;obtain⟨n,hn⟩:∃n:Int,x.getD 6 0=n:=⟨_,rfl⟩
 rw [hn] at h60 h61;have HN:=Zh hn;clear hx hn;go_enter Tryz.func188,Tryz.ntmps188;go_upto_region 0 with fail;refine Zl ?_;refine JT rfl rfl ?_;intro wA hA hB hl1;refine nm ?_;refine J4 J2f rfl ?_;intro wB hR hB2 hl2;refine nm ?_;have HA:=Zh (hA.below hB2 hl1);have HR:=Zh hR;have HB:=Zh (hB.trans (hB2.mono hB.size));have HLT:Hid (w.heap.size<wA.heap.size):=Zh hl1;clear hA hB hl1 hR hB2 hl2;generalize hrr:wA.heap.size=r at *;clear hrr wA;refine tk (.int .i64 0) ?_;refine Zn ?_;have c6:wB.cell? ⟨w.heap.size,6,none⟩=some (.int .u8 n):=by rw [←HN.out]; exact HA.cell (Kf HX.out (by decide))
 by_cases h24:24<n
 · have HNO:Hid (KF x=false):=Zh (by
    cases e:KF x with
    | false=>rfl
    | true =>
     have:=yq e (by rw [HN.out]; exact h60)
     rw [HN.out] at this
     omega)
   go_upto_region 2 with fail;refine Zl ?_;refine Je (kl _) rfl ?_;refine nm ?_;refine J3 (cs:=#[.int .u32 0,.bool false,.slice none 0 0]) HR.out rfl Q9 (Xc _ _ _ _ _) rfl rfl rfl ?_;intro wZ hZ hOZ hlZ;refine nm ?_;have HF:=Zh (HB.trans (hOZ.below HB.size (fun k hk=>by have:=HLT.out; omega)));refine tk (.int .i64 11) ?_;go_wp2_with fail
   obtain⟨e1,e2⟩:=jN HNO.out;rw [e1,e2];refine bodyPost_ret (v:=.tuple #[.agg #[.int .u32 0,.bool false,.slice none 0 0],.int .i64 11]) (results_cell_tmp rfl _ _ r 0 _ _ _ rfl rfl Tryz.underlying300 rfl Q9 (hZ.all rfl)) rfl ⟨_,rfl,MarksAt.nil _ _ _,HF.out,Fresh.nil _⟩
 · have HRD:=Zh fun w=>J3w x HX.out (by rw [HN.out]; omega) w;have HWF:=Zh (J0e HX.out);have HIS:=Zh (show KF x=((J5 x).good&&decide ((J5 x).enc=x)) from rfl);have HML:Hid ((J5 x).marks.length≤1000000):=Zh (by
    have:(J5 x).marks.length=min 24 (x.getD 6 0).toNat:=KE _ _
    omega)
   go_upto_region 3 with fail;refine Zl ?_;refine Q6 (cs:=(u8s x).toArray) (Blk.all HA.out rfl) (by rw [J2,HXL.out]) rfl rfl ?_;refine nm ?_;refine J0 rfl fun K hK=>?_;go_simp;refine (HRD.out _).mono ?_;rintro e w1 ⟨sv,rfl,hm,hb,hfr⟩;have HFSH:Hid (Fresh w.heap.size sv):=Zh fun b o n c e=>Nat.le_trans HB.size (hfr b o n c e);clear hfr;have HA1:=Zh (HA.below hb HA.lt);have HR1:=Zh (HR.below hb HR.lt);have HB1:=Zh (HB.trans (hb.mono HB.size));have HM1:=Zh hm;refine hK _ _ ?_;clear hK K hb hm HA HR HB HRD c6;refine nm ?_;refine J4 J2f rfl ?_;intro wC hC hBC hlC;refine nm ?_;refine J3 (cs:=#[.int .u32 (J5 x).seq,.bool (J5 x).more,sv]) hC rfl Q9 (J7d HM1.out _ _) rfl rfl rfl ?_;intro wD hD hOD hlD;refine nm ?_;have hBD:=hBC.trans (hOD.below hBC.size (fun k hk=>Nat.le_of_eq hk.symm));have HA:=Zh (HA1.below hBD HA1.lt);have HR:=Zh (HR1.below hBD HR1.lt);have HB:=Zh (HB1.trans (hBD.mono HB1.size));have HM:=Zh (HM1.below hBD);have HT:=Zh hD;clear hC hBC hlC hD hOD hlD hBD HA1 HR1 HB1 HM1;generalize w1.heap.size=t at *;clear w1 wC;go_upto_region 4 with fail;refine Zl ?_;refine xh (cs:=#[.int .u32 (J5 x).seq,.bool (J5 x).more,sv]) (Blk.all HT.out rfl) rfl rfl rfl ?_;refine nm ?_;refine J0 rfl fun K hK=>?_;go_simp;refine (Yj (J5 x) sv HML.out HWF.out _ HM.out).mono ?_;rintro e w2 ⟨rfl,hb⟩;have HA2:=Zh (HA.below hb HA.lt);have HR2:=Zh (HR.below hb HR.lt);have HT2:=Zh (HT.below hb HT.lt);have HB2:=Zh (HB.trans (hb.mono HB.size));have HM2:=Zh (HM.below hb);refine hK _ _ ?_;clear hK K hb HA HR HB HM HT;refine nm ?_;refine tk (.tuple #[.agg (u8s (J5 x).sec).toArray,.int .i64 (J5 x).err]) ?_;refine tk (.agg (u8s (J5 x).sec).toArray) ?_;refine tk (.int .i64 (J5 x).err) ?_;have HSE:=Zh (Yi (J5 x));refine J4 Ka rfl ?_;intro wC hC hBC hlC;refine nm ?_;refine J3 (cs:=(u8s (J5 x).sec).toArray) hC (by rw [J2,HSE.out]; simp [zeros]) (by rw [J2,HSE.out]; exact info36) (Ji _) rfl rfl rfl ?_;intro wD' hD hOD hlD;refine nm ?_;have hBD:=hBC.trans (hOD.below hBC.size (fun k hk=>Nat.le_of_eq hk.symm));have HA:=Zh (HA2.below hBD HA2.lt);have HR:=Zh (HR2.below hBD HR2.lt);have HT:=Zh (HT2.below hBD HT2.lt);have HB:=Zh (HB2.trans (hBD.mono HB2.size));have HM:=Zh (HM2.below hBD);have HY:=Zh hD;clear hC hBC hlC hD hOD hlD hBD HA2 HR2 HB2 HM2 HT2;generalize w2.heap.size=y at *;clear w2 wC wD;refine tk (.int .i64 (J5 x).err) ?_;refine Zn ?_;cases hg:(J5 x).good
   · have HNO:Hid (KF x=false):=Zh (by rw [HIS.out,hg]; rfl);rw [show (J5 x).err=11 from by unfold Sm.err; rw [hg]; rfl];clear hg HIS HWF;go_upto_region 6 with fail;refine Zl ?_;refine Je (kl _) rfl ?_;refine nm ?_;refine J3 (cs:=#[.int .u32 0,.bool false,.slice none 0 0]) HR.out rfl Q9 (Xc _ _ _ _ _) rfl rfl rfl ?_;intro wZ hZ hOZ hlZ;refine nm ?_;have HF:=Zh (HB.trans (hOZ.below HB.size (fun k hk=>by have:=HLT.out; omega)));refine tk (.int .i64 11) ?_;go_wp2_with fail
     obtain⟨e1,e2⟩:=jN HNO.out;rw [e1,e2];refine bodyPost_ret (v:=.tuple #[.agg #[.int .u32 0,.bool false,.slice none 0 0],.int .i64 11]) (results_cell_tmp rfl _ _ r 0 _ _ _ rfl rfl Tryz.underlying300 rfl Q9 (hZ.all rfl)) rfl ⟨_,rfl,MarksAt.nil _ _ _,HF.out,Fresh.nil _⟩
   · rw [show (J5 x).err=0 from by unfold Sm.err; rw [hg]; rfl];rw [show (J5 x).sec=(J5 x).enc from by unfold Sm.sec; rw [hg]; rfl] at HY HSE;go_upto_region 5 with fail;refine Zl ?_;refine tk (.int .i64 0) ?_;refine tk (.bool false) ?_;refine tk (.bool false) ?_;refine Q6 (cs:=(u8s (J5 x).enc).toArray) (Blk.all HY.out rfl) (by rw [J2,HSE.out]) rfl rfl ?_;refine nm ?_;refine Q6 (cs:=(u8s x).toArray) (Blk.all HA.out rfl) (by rw [J2,HXL.out]) rfl rfl ?_;refine nm ?_;refine tk (.bool (!decide ((J5 x).enc=x))) ?_ (hr:=(Jep HSE.out HXL.out _ _ _ rfl rfl rfl))
     by_cases he:(J5 x).enc=x
     · have HYES:Hid (KF x=true):=Zh (by rw [HIS.out,hg,decide_eq_true he]; rfl);rw [show (!decide ((J5 x).enc=x))=false from by rw [decide_eq_true he]; rfl];clear hg HIS HWF he;refine tk (.bool false) ?_;go_upto_region 7 with fail;refine Zl ?_;refine xh (cs:=#[.int .u32 (J5 x).seq,.bool (J5 x).more,sv]) (Blk.all HT.out rfl) rfl rfl rfl ?_;refine nm ?_;refine J3 (cs:=#[.int .u32 (J5 x).seq,.bool (J5 x).more,sv]) HR.out rfl Q9 (J7d HM.out _ _) rfl rfl rfl ?_;intro wZ hZ hOZ hlZ;refine nm ?_;have HF:=Zh (HB.trans (hOZ.below HB.size (fun k hk=>by have:=HLT.out; omega)));have HMF:=Zh (HM.only hOZ HR.out (J3x _ _ _ _ _));refine tk (.int .i64 0) ?_;go_wp2_with fail
       obtain⟨e1,e2⟩:=Zy HYES.out;rw [e1,e2];refine bodyPost_ret (v:=.tuple #[.agg #[.int .u32 (J5 x).seq,.bool (J5 x).more,sv],.int .i64 0]) (results_cell_tmp rfl _ _ r 0 _ _ _ rfl rfl Tryz.underlying300 rfl Q9 (hZ.all rfl)) rfl ⟨_,rfl,HMF.out,HF.out,HFSH.out⟩
     · have HNO:Hid (KF x=false):=Zh (by rw [HIS.out,hg,decide_eq_false he]; rfl);rw [show (!decide ((J5 x).enc=x))=true from by rw [decide_eq_false he]; rfl];clear hg HIS HWF he;refine tk (.bool true) ?_;go_upto_region 6 with fail;refine Zl ?_;refine Je (kl _) rfl ?_;refine nm ?_;refine J3 (cs:=#[.int .u32 0,.bool false,.slice none 0 0]) HR.out rfl Q9 (Xc _ _ _ _ _) rfl rfl rfl ?_;intro wZ hZ hOZ hlZ;refine nm ?_;have HF:=Zh (HB.trans (hOZ.below HB.size (fun k hk=>by have:=HLT.out; omega)));refine tk (.int .i64 11) ?_;go_wp2_with fail
       obtain⟨e1,e2⟩:=jN HNO.out;rw [e1,e2];refine bodyPost_ret (v:=.tuple #[.agg #[.int .u32 0,.bool false,.slice none 0 0],.int .i64 11]) (results_cell_tmp rfl _ _ r 0 _ _ _ rfl rfl Tryz.underlying300 rfl Q9 (hZ.all rfl)) rfl ⟨_,rfl,MarksAt.nil _ _ _,HF.out,Fresh.nil _⟩
theorem Jb4(b:Bk):b.isZ=true↔b=Bk.none:=by
 obtain⟨k,i,p,o,y,v,h⟩:=b;simp [Bk.isZ,Bk.none,and_assoc]
theorem Jeq{x:It}(h:x.ok=true)(k:x.has=true):x.blk.kind=x.mark.1∧x.blk.id=x.mark.2∧x.blk.good=true:=by
 simp only [It.ok,It.fits,Bool.and_eq_true,k,if_true,decide_eq_true_eq] at h;exact⟨h.2.1.1,h.2.1.2,h.2.2⟩
theorem Jer{x:It}(h:x.ok=true)(k:x.has=false):x.blk=Bk.none:=by
 simp only [It.ok,It.fits,Bool.and_eq_true,k,Bool.false_eq_true,if_false] at h;exact (Jb4 _).1 h.2
theorem km(n:Nat):n≤24*parts n:=by unfold parts; omega
theorem QM(n:Int)(l:List It):(Jd n l).1.length=parts l.length+Jy (marks l):=by
 rw [Jd,Zp,List.take_of_length_le (km _)]
theorem Jb5{p:List It}(w:∀x∈p,x.Wf)(n:Int)(m:Bool):∀y∈XB n m p,Sc y:=by
 intro y hy;rcases List.mem_cons.1 hy with rfl | hy
 · exact J6a _
 · obtain⟨x,hx,rfl⟩:=List.mem_map.1 hy;exact x8 (w x ((List.mem_filter.1 hx).1)).b n
theorem QA{l:List It}{x:It}(h:x∈Q7 l k):x∈l:=List.mem_of_mem_drop (List.mem_of_mem_take h)
theorem J7f{l:List It}(w:∀x∈l,x.Wf)(n:Int)(k:Nat):∀y∈(Jt n l k).1,Sc y:=by
 induction k with
 | zero=>intro y hy; cases hy
 | succ k ih =>
  intro y hy;rw [KU] at hy;rcases List.mem_append.1 hy with hy | hy
  · exact ih y hy
  · exact Jb5 (fun x hx=>w x (QA hx)) _ _ y hy
def JD:List Mk→List (List Int)→Option (List It)
 | [],_=>some []
 | m::r,s=>if JA m.1 then (match s with
  | []=>none
  | y::t=>if JP y then (JD r t).map (⟨m,readOf y⟩::·) else none)
  else (JD r s).map (⟨m,Bk.none⟩::·)
def gat(L:List (List Int)):Nat→List It→Nat→List It×Nat
 | 0,_,_=>([],0)
 | f+1,its,t=>match L[t]? with
  | none=>([],0)
  | some y=>if its.length≤64∧KF y=true then (match JD (J5 y).marks (L.drop (t+1)) with
   | none=>([],0)
   | some p=>if (J5 y).more then gat L f (its++p) (t+(1+Jy (J5 y).marks)) else (its++p,t+(1+Jy (J5 y).marks)))
   else ([],0)
def Kl(L:List (List Int)):List It×Nat:=gat L (L.length+1) [] 0
def QX(n:Int)(L:List (List Int)):Option (List It):=if JE (Kl L).1&&decide ((Jd n (Kl L).1).1=L.take (Kl L).2) then some (Kl L).1 else none
theorem Z4{l:List It}(h:JE l=true)(hk:k<parts l.length):Jv (marks (Q7 l k))=true:=by
 obtain⟨h1,h2,h3,-⟩:=JN.1 h;have hp:parts l.length=(l.length+23)/24:=rfl;unfold Jv;simp only [Bool.and_eq_true,decide_eq_true_eq,List.all_eq_true,List.length_map,List.length_take,List.length_drop];refine⟨⟨by omega,by omega⟩,fun m hm=>?_⟩;obtain⟨x,hx,rfl⟩:=List.mem_map.1 hm;exact J28 (h3 x (QA hx))
theorem yt{p:List It}(hg:Jv (marks p)=true)(w:∀x∈p,x.Wf){n:Int}(hn:Kj n)(m:Bool):KF (JJ n m p)=true∧J5 (JJ n m p)=⟨n,m,marks p⟩∧JJ n m p=Sm.enc ⟨n,m,marks p⟩:=by
 have hs:Sm.good ⟨n,m,marks p⟩=true:=hg;have hw:Sm.Wf ⟨n,m,marks p⟩:=⟨hn,fun q hq=>by
  obtain⟨x,hx,rfl⟩:=List.mem_map.1 hq
  exact⟨(w x hx).k,(w x hx).i⟩⟩
 have e:JJ n m p=Sm.enc ⟨n,m,marks p⟩:=by
  unfold JJ Sm.sec;rw [if_pos hs]
 rw [e];exact⟨J3v hs hw,qw hs hw,rfl⟩
theorem Jb6{x:It}(h:x.ok=true)(k:x.has=true)(w:x.Wf){n:Int}(hn:Kj n):JP (x.blk.sec n)=true∧readOf (x.blk.sec n)=x.blk∧Kq (x.blk.sec n)=n∧x.blk.sec n=x.blk.enc n:=by
 have hg:=(Jeq h k).2.2;have e:x.blk.sec n=x.blk.enc n:=by
  unfold Bk.sec;rw [if_pos hg]
 rw [e];obtain⟨h1,h2⟩:=ki hg w.b n hn;exact⟨jg hg w.b n hn,h1,h2,rfl⟩
theorem J0g{p:List It}(h:∀x∈p,x.ok=true)(w:∀x∈p,x.Wf){n:Int}(hn:Kj n)(r:List (List Int)):JD (marks p) (Kk n p++r)=some p:=by
 induction p with
 | nil=>rfl
 | cons x q ih =>
  have ih:=ih (fun y hy=>h y (List.mem_cons_of_mem _ hy)) (fun y hy=>w y (List.mem_cons_of_mem _ hy));have hx:=h x (by simp);have hh:JA x.mark.1=x.has:=rfl;simp only [marks,List.map_cons,JD,hh] at ih ⊢;cases k:x.has
  · have e:=Jer hx k;have:Kk n (x::q)=Kk n q:=by simp [Kk,k]
    rw [this,ih];simp only [Bool.false_eq_true,if_false,Option.map_some];rw [←e]
  · obtain⟨b1,b2,-,-⟩:=Jb6 hx k (w x (by simp)) hn;have:Kk n (x::q)=x.blk.sec n::Kk n q:=by simp [Kk,k]
    rw [this,List.cons_append];simp only [if_true,b1,ih,Option.map_some,b2]
theorem yu{L:List (List Int)}{n:Int}(hn:Kj n){m:Bool}{p:List It}{t:Nat}{r:List (List Int)}(hL:L.drop t=XB n m p++r)(hg:Jv (marks p)=true)(hp:∀x∈p,x.ok=true)(w:∀x∈p,x.Wf)(f:Nat)(its:List It)(hi:its.length≤64) :
 gat L (f+1) its t=if m then gat L f (its++p) (t+(1+Jy (marks p))) else (its++p,t+(1+Jy (marks p))):=by
 obtain⟨s1,s2,-⟩:=yt hg w hn m;have h0:L[t]? = some (JJ n m p):=by
  have:=congrArg (fun z=>z[0]?) hL;simpa [XB] using this
 have h1:L.drop (t+1)=Kk n p++r:=by
  have:=congrArg List.tail hL;simpa [XB] using this
 simp only [gat,h0,s1,hi,and_self,if_true,s2,h1,J0g hp w hn r]
theorem Jb7{n:Int}{l:List It}(h:JE l=true)(w:∀x∈l,x.Wf){L:List (List Int)}(hL:(Jd n l).1 <+: L) :
 ∀j k f,k+j+1=parts l.length→j<f→gat L f (l.take (24*k)) (Jt n l k).1.length=(l,(Jd n l).1.length):=by
 have hM:=JN.1 h;have hpre:∀k,k≤parts l.length→(Jt n l k).1 <+: L:=fun k hk=>by
  refine List.IsPrefix.trans ?_ hL;unfold Jd;obtain⟨d,hd⟩:=Nat.exists_eq_add_of_le hk;rw [hd];clear hd hk
  induction d with
  | zero=>exact List.prefix_refl _
  | succ d ih=>rw [←Nat.add_assoc,KU]; exact ih.trans (List.prefix_append _ _)
 have hpt:∀k,k<parts l.length→∃r,L.drop (Jt n l k).1.length=XB ((n+k)%M32) (decide (24*k+24<l.length)) (Q7 l k)++r:=fun k hk=>by
  obtain⟨r,hr⟩:=hpre (k+1) hk;rw [KU,List.append_assoc] at hr;exact⟨r,by rw [←hr,List.drop_left]⟩
 have hpp:parts l.length=(l.length+23)/24:=rfl;have hlen:∀k,(Jt n l (k+1)).1.length=(Jt n l k).1.length+(1+Jy (marks (Q7 l k))):=fun k=>by
  rw [KU,List.length_append,XC]
 intro j
 induction j with
 | zero =>
  intro k f hk hf;obtain⟨f,rfl⟩:∃g,f=g+1:=⟨f-1,by omega⟩
  obtain⟨r,hr⟩:=hpt k (by omega);have hm:decide (24*k+24<l.length)=false:=decide_eq_false (by omega);rw [yu (YG _) hr (Z4 h (by omega)) (fun x hx=>hM.2.2.1 x (QA hx)) (fun x hx=>w x (QA hx)) f _ (by rw [List.length_take]; omega),hm];simp only [Bool.false_eq_true,if_false];rw [←Xa,←hlen,List.take_of_length_le (by omega),Jd,←hk]
 | succ j ih =>
  intro k f hk hf;obtain⟨f,rfl⟩:∃g,f=g+1:=⟨f-1,by omega⟩
  obtain⟨r,hr⟩:=hpt k (by omega);have hm:decide (24*k+24<l.length)=true:=decide_eq_true (by omega);rw [yu (YG _) hr (Z4 h (by omega)) (fun x hx=>hM.2.2.1 x (QA hx)) (fun x hx=>w x (QA hx)) f _ (by rw [List.length_take]; omega),hm];simp only [if_true];rw [←Xa,←hlen];exact ih (k+1) f (by omega) (by omega)
theorem J0h{n:Int}{l:List It}(h:JE l=true)(w:∀x∈l,x.Wf){L:List (List Int)}(hL:(Jd n l).1 <+: L):Kl L=(l,(Jd n l).1.length):=by
 have hp:=(Qf h).1;have h1:=hL.length_le;have h2:=QM n l;have:=Jb7 h w hL (parts l.length-1) 0 (L.length+1) (by omega) (by omega);simpa [Jt,Kl] using this
theorem yv{n:Int}{l:List It}(h:JE l=true)(w:∀x∈l,x.Wf){L:List (List Int)}(hL:(Jd n l).1 <+: L):QX n L=some l:=by
 have hg:=J0h h w hL;unfold QX;rw [hg];simp only [h,Bool.true_and];rw [if_pos];exact decide_eq_true (List.prefix_iff_eq_take.1 hL)
theorem QB{n:Int}{l:List It}{L:List (List Int)}(h:QX n L=some l):JE l=true∧(Jd n l).1 <+: L∧Kl L=(l,(Kl L).2):=by
 unfold QX at h;split at h
 · rename_i hc
   cases h;simp only [Bool.and_eq_true,decide_eq_true_eq] at hc;refine⟨hc.1,?_,rfl⟩;rw [hc.2];exact List.take_prefix _ _
 · cases h
theorem J3y{ms:List Mk}(hm:∀m∈ms,Jo m.1∧Jo m.2){s:List (List Int)}(hs:∀y∈s,Sc y){l:List It}(h:JD ms s=some l):∀x∈l,x.Wf:=by
 induction ms generalizing s l with
 | nil=>cases h; intro x hx; cases hx
 | cons m r ih =>
  have hm1:=hm m (by simp);have hm2:=fun q hq=>hm q (List.mem_cons_of_mem _ hq);unfold JD at h;split at h
  · cases s with
    | nil=>cases h
    | cons y t =>
     simp only at h;split at h
     · obtain⟨q,hq,rfl⟩:=Option.map_eq_some_iff.1 h;intro x hx;rcases List.mem_cons.1 hx with rfl | hx
       · exact⟨hm1.1,hm1.2,readOf_wf (hs y (by simp))⟩
       · exact ih hm2 (fun z hz=>hs z (List.mem_cons_of_mem _ hz)) hq x hx
     · cases h
  · obtain⟨q,hq,rfl⟩:=Option.map_eq_some_iff.1 h;intro x hx;rcases List.mem_cons.1 hx with rfl | hx
    · exact⟨hm1.1,hm1.2,none_wf⟩
    · exact ih hm2 hs hq x hx
theorem Jes{L:List (List Int)}(hL:∀y∈L,Sc y):∀f its t,(∀x∈its,It.Wf x)→∀x∈(gat L f its t).1,x.Wf:=by
 intro f
 induction f with
 | zero=>intro its t _ x hx; cases hx
 | succ f ih =>
  intro its t hi;unfold gat;split
  · intro x hx; cases hx
  · rename_i y hy
    split
    · rename_i hc
      cases e:JD (J5 y).marks (L.drop (t+1)) with
      | none=>intro x hx; cases hx
      | some p =>
       have hp:=J3y (YW (hL y (List.mem_of_getElem? hy)) _) (fun z hz=>hL z (List.mem_of_mem_drop hz)) e;have ha:∀x∈its++p,It.Wf x:=fun x hx=>(List.mem_append.1 hx).elim (hi x) (hp x);simp only;split
       · exact ih _ _ ha
       · exact ha
    · intro x hx; cases hx
theorem J7g{n:Int}{l:List It}{L:List (List Int)}(hL:∀y∈L,Sc y)(h:QX n L=some l):∀x∈l,x.Wf:=by
 have:=Jes hL (L.length+1) [] 0 (fun x hx=>by cases hx);have e:=(QB h).2.2;unfold Kl at e;rw [e] at this;exact this
theorem J3z{n:Int}{l:List It}{L:List (List Int)}(hL:∀y∈L,Sc y):QX n L=some l↔JE l=true∧(∀x∈l,x.Wf)∧(Jd n l).1 <+: L :=
 ⟨fun h=>⟨(QB h).1,J7g hL h,(QB h).2.1⟩,fun ⟨h1,h2,h3⟩=>yv h1 h2 h3⟩
theorem J40:Tryz.prog.underlying 106=some (.slice (Tryz.prog.elem 106))∧Tryz.prog.elem 106=36:=⟨by kernel_rfl,by kernel_rfl⟩
theorem J7h(w:World):(Go.sizeOf 36).run Tryz.prog w=.ok 64 w:=by
 obtain⟨i,hi,hs⟩:=KQ info36;simp [Go.sizeOf,typeInfo,hi,hs]
theorem J0i(w:World)(a:Option Addr)(n cap f:Nat)(h1:f≤n):(Instr.sliceAt 106 (.slice a n cap) (some (.int .i64 f)) none none).run Tryz.prog w=.ok (.slice (K4 a f cap 64) (n-f) (cap-f)) w:=by
 rw [run_sliceAt_slice w 106 _ _ _ _ J40.1,run_slice_l w 106 a n cap J40.1 .i64 f (by omega) (by omega),J40.2,J7h];rfl
theorem J0j(w:World)(a:Option Addr)(n cap e:Nat)(h2:e≤cap):(Instr.sliceAt 106 (.slice a n cap) none (some (.int .i64 e)) none).run Tryz.prog w=.ok (.slice (K4 a 0 cap 64) e cap) w:=by
 rw [run_sliceAt_slice w 106 _ _ _ _ J40.1,run_slice_h w 106 a n cap J40.1 .i64 e (by omega) (by omega),J40.2,J7h];rfl
theorem jj(w:World)(ev:Operand→Value)(op:Oper)(x y:Operand)(ho:op.op=.slice 106 x (some y) none none)(a:Option Addr)(n cap f:Nat)(hx:ev x=.slice a n cap)(hy:ev y=.int .i64 f)(h1:f≤n):(execOp ev op).run Tryz.prog w=.ok (.value (.slice (K4 a f cap 64) (n-f) (cap-f))) w:=by
 unfold execOp;simp only [ho,hx,hy,Option.map_some,Option.map_none,Sem.run_bind,J0i w a n cap f h1,Result.andThen_ok,Sem.run_pure]
theorem yw(w:World)(ev:Operand→Value)(op:Oper)(x z:Operand)(ho:op.op=.slice 106 x none (some z) none)(a:Option Addr)(n cap e:Nat)(hx:ev x=.slice a n cap)(hz:ev z=.int .i64 e)(h2:e≤cap):(execOp ev op).run Tryz.prog w=.ok (.value (.slice (K4 a 0 cap 64) e cap)) w:=by
 unfold execOp;simp only [ho,hx,hz,Option.map_some,Option.map_none,Sem.run_bind,J0j w a n cap e h2,Result.andThen_ok,Sem.run_pure]
open Go.RowKit
theorem J41(sv tv:Value)(l m:List (List Int))(hl:l.length≤100000)(hm:m.length≤100000)(w:World)(h:SecsAt w sv l)(k:SecsAt w tv m):Calls Tryz.prog 185 #[sv,tv] w (Zr w (.bool (decide (l=m)))):=by
 obtain⟨a,c,rfl,hc1,hc⟩:=h;obtain⟨b,d,rfl,hd1,hd⟩:=k
 by_cases hlm:l.length=m.length
 · have HC:=Zh hc;have HD:=Zh hd;obtain⟨n,hn⟩:∃n,m.length=n:=⟨_,rfl⟩
   rw [hlm,hn];rw [hn] at hlm hm;have HL:=Zh hlm;have HM:=Zh hn;clear hc hd hc1 hd1 hl hlm hn;go_enter Tryz.func185,Tryz.ntmps185
   go_wp2_with fail
   go_loopg [13] n (fun q i wr=>∃k:Nat,n-k≤q∧k≤n∧i=.int .i64 k∧l.take k=m.take k∧Below w.heap.size w wr)
   case atStart=>exact⟨0,by omega,by omega,rfl,rfl,Below.refl _ _⟩
   case round =>
    obtain⟨k,hq,hk,rfl,hsame,hb⟩:=hrel;have HS:=Zh hsame;have HB:=Zh hb;clear hsame hb
    by_cases hlt:k<n
    · obtain⟨y,hy⟩:∃y,l[k]? = some y:=⟨_,List.getElem?_eq_getElem (by have:=HL.out; omega)⟩
      obtain⟨z,hz⟩:∃z,m[k]? = some z:=⟨_,List.getElem?_eq_getElem (by have:=HM.out; omega)⟩
      obtain⟨y1,g,o,rfl,y2⟩:=HC.out k y hy;obtain⟨z1,g2,o2,rfl,z2⟩:=HD.out k z hz;have HY1:=Zh y1;have HZ1:=Zh z1;have HYA:=Zh (y2.below HB.out (y2.lt (by rw [y1.size]; decide)));have HZA:=Zh (z2.below HB.out (z2.lt (by rw [z1.size]; decide)));have HYL:=Zh (HYA.lt (by rw [y1.size]; decide));have HZL:=Zh (HZA.lt (by rw [z1.size]; decide));have HYK:=Zh hy;have HZK:=Zh hz;have HN:=Zh fun w=>Je0 w y z y1.length z1.length;have gk:decide ((k:Int)<(n:Int))=true:=decide_eq_true (by omega);have hk0:(k:Int)<(n:Int):=by omega
      clear y1 y2 z1 z2 hy hz;go_upto_region 6 with fail;refine J8 (fun wq=>Below wr.heap.size wr wq) (by kernel_rfl) ?_;refine th 0 16 (.slice (some ⟨g,o,none⟩) n c) (Below.refl _ _).drew ?_;refine th 1 17 (.int .i64 k) (Below.refl _ _).drew ?_;refine th 2 18 (.pointer (some ⟨g,o+k*64,none⟩)) (Below.refl _ _).drew ?_;refine Jj 3 (some 19) (.agg ((u8s y).toArray)) rfl rfl (by kernel_rfl) (by kernel_rfl) (by kernel_rfl) (fun _ _ _ h=>h) rfl (fun wq hS=>exec_load_at wq _ _ 36 _ rfl (g) (o+k*64) rfl ((u8s y).toArray) _ Tryz.underlying36 rfl (by rw [HY1.size]; exact info36) (HYA.below hS HYL.out)) (Below.refl _ _).drew ?_;refine nm ?_;refine th 4 20 (.slice (some ⟨g2,o2,none⟩) n d) (Below.refl _ _).drew ?_;refine th 5 21 (.int .i64 k) (Below.refl _ _).drew ?_;refine th 6 22 (.pointer (some ⟨g2,o2+k*64,none⟩)) (Below.refl _ _).drew ?_;refine Jj 7 (some 23) (.agg ((u8s z).toArray)) rfl rfl (by kernel_rfl) (by kernel_rfl) (by kernel_rfl) (fun _ _ _ h=>h) rfl (fun wq hS=>exec_load_at wq _ _ 36 _ rfl (g2) (o2+k*64) rfl ((u8s z).toArray) _ Tryz.underlying36 rfl (by rw [HZ1.size]; exact info36) (HZA.below hS HZL.out)) (Below.refl _ _).drew ?_;refine nm ?_
      by_cases e:y=z
      · have gn:(!decide (y=z))=false:=by simp [e]
        rw [gn] at HN;have HEQ:=Zh e;clear gn e;refine th 8 24 (.bool false) (Below.refl _ _).drew ?_ (hy:=fun wq hS=>by have hq:=HN.out; go_simp);refine Zd ?_;have HST:Hid (l.take (k+1)=m.take (k+1)):=Zh (by rw [List.take_add_one,List.take_add_one,HS.out,HYK.out,HZK.out,HEQ.out]);have HB2:Hid (Below w.heap.size w wr.drew):=Zh HB.drew
        go_wp2_with fail
        go_roundg (n-(k+1))
        case measure=>omega
        case rel=>exact⟨k+1,by omega,by omega,by go_num,HST.out,by first | exact HB2.out | exact HB.drew⟩
      · have gn:(!decide (y=z))=true:=by simp [e]
        rw [gn] at HN;refine th 8 24 (.bool true) (Below.refl _ _).drew ?_ (hy:=fun wq hS=>by have hq:=HN.out; go_simp);refine Zd ?_;have HX:Hid (decide (l=m)=false):=Zh (decide_eq_false fun h=>by
         subst h
         have:=HYK.symm.trans HZK.out
         exact e (Option.some.inj this))
        have HB2:Hid (Below w.heap.size w wr.drew):=Zh HB.drew;clear gn e
        go_wp2_with fail
        go_ret;exact⟨J9 HX.symm,HB2.out⟩
    · obtain rfl:k=n:=by omega
      have HX:Hid (decide (l=m)=true):=Zh (decide_eq_true (by
       have:=HS.out
       rwa [List.take_of_length_le (by have:=HL.out; omega),List.take_of_length_le (by have:=HM.out; omega)] at this))
      have gk:decide ((k:Int)<(k:Int))=false:=decide_eq_false (by omega)
      go_wp2_with fail
      go_ret;exact⟨J9 HX.symm,HB.out⟩
 · have HX:Hid (decide (l=m)=false):=Zh (decide_eq_false fun h=>hlm (by rw [h]));rw [HX.out];have gn:((l.length:Int) != (m.length:Int))=true:=by simp; omega
   obtain⟨n1,h1⟩:∃n,l.length=n:=⟨_,rfl⟩
   obtain⟨n2,h2⟩:∃n,m.length=n:=⟨_,rfl⟩
   rw [h1,h2] at gn hlm;rw [h1,h2];clear hc hd hc1 hd1 hl hm h1 h2;go_enter Tryz.func185,Tryz.ntmps185
   go_wp2_with fail
   go_ret;exact⟨rfl,Below.refl _ _⟩
end Go.Proofs.YtdbfmikeaoaebaaGreatDoor
