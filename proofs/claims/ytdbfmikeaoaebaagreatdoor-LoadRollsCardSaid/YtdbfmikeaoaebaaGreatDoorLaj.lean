/- Steps. -/
import Derived.Test.YtdbfmikeaoaebaaGreatDoorLai
import Derived.Test.YtdbfmikeaoaebaaGreatDoorLag
import Derived.BigQuiet
import Derived.Deep.AppendLies
import Derived.Deep.Cut
import Derived.Deep.CutRange
import Derived.Deep.DeepFit
import Derived.Deep.DeepMust
import Derived.Deep.LoopGhost
import Derived.Deep.QuietTactic
import Derived.Deep.Upon
import Derived.Laws.CopyRow
import Derived.Laws.Rows
import Derived.Laws.StructEq
import Derived.Lib.AppendZeros
import Derived.Lib.EndianBits
import Derived.Lib.Hide
import Derived.OrdersHeld
import Derived.RegionTactic
import Derived.WalkKit
import Derived.WalkLawsBesides
import Derived.WalkSpells
set_option linter.unusedSimpArgs false
set_option linter.unusedVariables false
set_option maxRecDepth 100000
set_option maxHeartbeats 4000000
namespace Go.Proofs.YtdbfmikeaoaebaaGreatDoor
open Go.RowKit
variable {A F S:Nat→Prop} {B N b c i j k m n:Nat} {E:World→Prop} {K:Act→World→Prop} {L M:List Value} {P:Program} {Q:Exit→Act→World→Prop} {V:List (Nat×List Value)} {W W0 w w':World} {a:Act} {cs:Array Value} {dst:Option Tmp} {guard:Option (Nat×Bool)} {l:List Int} {o:Oper} {ops:Array Oper} {pos:String} {rest:List Oper} {sv v:Value} {t:TypeId} {y:Operand}
namespace Rn
open Pl
def U32(n:Int):Prop:=0≤n∧n<4294967296
instance (g:Gm):Decidable g.Ok:=by unfold Gm.Ok;infer_instance
theorem J2g{a b A B:Int}(h0:0≤a)(h1:a≤A)(k0:0≤b)(k1:b≤B):0≤a*b∧a*b≤A*B :=
 ⟨Int.mul_nonneg h0 k0,Int.mul_le_mul h1 k1 k0 (by omega)⟩
theorem _root_.Go.Proofs.YtdbfmikeaoaebaaGreatDoor.Pl.Gm.Ok.area0{g:Gm}(h:g.Ok):0≤g.s*g.l∧g.s*g.l≤512:=by
 obtain⟨_,⟨h3,h4⟩,⟨h5,h6⟩,_⟩:=h;exact J2g (by omega) h4 (by omega) h6
structure Rg where
 gen:Int
 p:Int
 s:Int
 l:Int
 f:Int
 seg:Int
 off:Int
 seq:Int
 rs:List Int
abbrev Rg.g(r:Rg):Gm:=⟨r.p,r.s,r.l,r.f⟩
def Rg.hd(r:Rg):List Value:=[.int .u32 r.gen,.int .i64 r.p,.int .i64 r.s,.int .i64 r.l,.int .i64 r.f,.int .i64 r.seg,.int .i64 r.off,.int .u32 r.seq]
def Rg.cells(r:Rg):List Value:=r.hd++r.rs.map (Value.int .i64)
def Rg.none:Rg:=⟨0,0,0,0,0,0,0,0,zeros 8⟩
structure Rg.Wf (r:Rg):Prop where
 gen:U32 r.gen
 p:Jh r.p
 s:Jh r.s
 l:Jh r.l
 f:Jh r.f
 seg:Jh r.seg
 off:Jh r.off
 seq:U32 r.seq
 len:r.rs.length=8
 rs:∀x∈r.rs,Jh x
theorem Rg.Wf.cells{r:Rg}(h:r.Wf):r.cells.length=16:=by simp [Rg.cells,Rg.hd,h.len]
theorem Rg.root_cell{r:Rg}{x:Int}(h:r.rs[k]? = some x):r.cells[8+k]? = some (.int .i64 x):=by
 unfold Rg.cells;rw [List.getElem?_append_right (by simp [Rg.hd])];simp [Rg.hd,h]
theorem Rg.cell_one(r:Rg):∀v∈r.cells,v.oneCell'=true:=fun v hv=>by
 simp only [Rg.cells,Rg.hd,List.mem_append,List.mem_cons,List.not_mem_nil,or_false,List.mem_map] at hv;rcases hv with (rfl|rfl|rfl|rfl|rfl|rfl|rfl|rfl)|⟨_,_,rfl⟩ <;> rfl
def QQ(g:Gm)(k:Nat)(x:Int):Bool:=decide (x=0)||(decide ((k:Int)<g.maps)&&(decide (4≤x)&&decide (x≤4+g.s*g.l-1)))
def Qk(g:Gm)(rs:List Int):Bool:=(List.range 8).all fun k=>QQ g k (rs.getD k 0)
def Rg.good(r:Rg):Bool:=decide r.g.Ok&&(decide (0≤r.seg∧r.seg≤r.s-1)&&(decide (0≤r.off∧r.off≤r.l)&&Qk r.g r.rs))
theorem qr{r:Rg}:r.good=true↔r.g.Ok∧(0≤r.seg∧r.seg≤r.s-1)∧(0≤r.off∧r.off≤r.l)∧Qk r.g r.rs=true:=by
 simp only [Rg.good,Bool.and_eq_true,decide_eq_true_eq]
theorem zX{g:Gm}{rs:List Int}(h:Qk g rs=true)(k:Nat)(hk:k<8):QQ g k (rs.getD k 0)=true:=by
 simp only [Qk,List.all_eq_true,List.mem_range] at h;exact h k hk
theorem J6l{g:Gm}{rs:List Int}(h:∀k,k<8→QQ g k (rs.getD k 0)=true):Qk g rs=true:=by
 simp only [Qk,List.all_eq_true,List.mem_range];exact h
theorem Jav{g:Gm}{rs:List Int}(hk:k<8)(h:QQ g k (rs.getD k 0)=false):Qk g rs=false:=by
 cases e:Qk g rs with
 | false=>rfl
 | true=>rw [zX e k hk] at h;cases h
theorem ym{x:Int}(h:l[k]? = some x):l.getD k 0=x:=by rw [List.getD_eq_getElem?_getD,h];rfl
theorem yn{g:Gm}(hg:g.Ok){x:Int}(h:QQ g k x=true):0≤x∧x<65536:=by
 have:=hg.area0;simp only [QQ,Bool.or_eq_true,Bool.and_eq_true,decide_eq_true_eq] at h;omega
theorem J2h{r:Rg}(h:r.good=true):∀x∈r.rs.take 8,0≤x∧x<65536:=fun x hx=>by
 obtain⟨hg,_,_,hr⟩:=qr.1 h;obtain⟨i,hi,rfl⟩:=List.getElem_of_mem hx;have h8:i<8:=by simp at hi;omega
 have hl:i<r.rs.length:=by simp at hi;omega
 have:=zX hr i h8;rw [ym (List.getElem?_eq_getElem hl)] at this;rw [List.getElem_take];exact yn hg this
def XW:List Int→List Int
 | []=>[]
 | x::l=>le 2 x++XW l
theorem Y9(l:List Int):(XW l).length=2*l.length:=by
 induction l with
 | nil=>rfl
 | cons m l ih=>simp only [XW,List.length_append,J7,List.length_cons,ih];omega
theorem yp(l m:List Int):XW (l++m)=XW l++XW m:=by
 induction l with
 | nil=>rfl
 | cons x l ih=>simp [XW,ih]
theorem J2i{x:Int}(h:l[k]? = some x):XW (l.take (k+1))=XW (l.take k)++le 2 x:=by
 rw [List.take_add_one,h,yp];simp [XW]
def Rg.six(r:Rg):List Int:=[r.p,r.s,r.l,r.f,r.seg,r.off]
def Rg.b0(r:Rg):List Int:=82::0::(le 4 r.gen++(r.six++le 4 r.seq))
def Rg.b1(r:Rg):List Int:=82::1::(le 4 r.gen++XW r.rs)
def Rg.s0(r:Rg):List Int:=r.b0++zeros 48
def Rg.s1(r:Rg):List Int:=r.b1++zeros 42
def Rg.enc(r:Rg):List Int:=r.s0++r.s1
theorem K0(r:Rg):r.s0.length=64:=by simp [Rg.s0,Rg.b0,Rg.six,J7,J1]
theorem KT{r:Rg}(h:r.rs.length=8):r.s1.length=64:=by simp [Rg.s1,Rg.b1,J7,J1,Y9,h]
theorem enc_length{r:Rg}(h:r.rs.length=8):r.enc.length=128:=by simp [Rg.enc,K0,KT h]
theorem Jaw{r:Rg}(h:r.good=true):∀x∈r.six,Ks x:=by
 obtain⟨⟨h1,h2,h3,h4⟩,h5,h6,_⟩:=qr.1 h;intro x hx;unfold Ks;simp only [Rg.six,List.mem_cons,List.not_mem_nil,or_false] at hx;rcases hx with rfl|rfl|rfl|rfl|rfl|rfl <;> simp only at h1 h2 h3 h4 <;> omega
structure Sc2 (x:List Int):Prop where
 length:x.length=128
 bytes:∀y∈x,Ks y
def Ya(x:List Int):List Int:=(List.range 8).map fun i=>num ((x.drop (70+2*i)).take 2)
def readOf(x:List Int):Rg:=⟨num ((x.drop 2).take 4),x.getD 6 0,x.getD 7 0,x.getD 8 0,x.getD 9 0,x.getD 10 0,x.getD 11 0,num ((x.drop 12).take 4),Ya x⟩
def XD(x:List Int):Bool:=(readOf x).good&&decide ((readOf x).enc=x)
theorem sc_byte{s:List Int}(h:Sc2 s)(i:Nat):Ks (s.getD i 0):=by
 rw [List.getD_eq_getElem?_getD];cases e:s[i]? with
 | none=>exact⟨by decide,by decide⟩
 | some x=>exact h.bytes x (List.mem_of_getElem? e)
theorem Q3{n:Int}(h:Ks n):Jh n:=⟨by have:=h.1;omega,by have:=h.2;omega⟩
theorem ZY{s:List Int}(h:Sc2 s)(o n:Nat)(ho:o+n≤128):0≤num ((s.drop o).take n)∧num ((s.drop o).take n)<256 ^ n:=by
 have hb:∀x∈(s.drop o).take n,Ks x:=fun x hx=>h.bytes x (List.mem_of_mem_drop (List.mem_of_mem_take hx));have h1:=XS _ hb
 rwa [show ((s.drop o).take n).length=n by simp [h.length];omega] at h1
theorem QA(x:List Int):(Ya x).length=8:=by simp [Ya]
theorem J2j(x:List Int)(h:k<8):(Ya x)[k]? = some (num ((x.drop (70+2*k)).take 2)):=by simp [Ya,h]
theorem readOf_wf{x:List Int}(h:Sc2 x):(readOf x).Wf where
 gen:=ZY h 2 4 (by omega)
 p:=Q3 (sc_byte h 6)
 s:=Q3 (sc_byte h 7)
 l:=Q3 (sc_byte h 8)
 f:=Q3 (sc_byte h 9)
 seg:=Q3 (sc_byte h 10)
 off:=Q3 (sc_byte h 11)
 seq:=ZY h 12 4 (by omega)
 len:=QA x
 rs:=fun y hy=>by
  obtain⟨i,hi,rfl⟩:=List.mem_map.1 hy;have hi8:i<8:=by simpa using hi
  have:=ZY h (70+2*i) 2 (by omega);exact⟨by omega,by omega⟩
theorem none_wf:Rg.none.Wf where
 gen:=⟨by decide,by decide⟩
 p:=⟨by decide,by decide⟩
 s:=⟨by decide,by decide⟩
 l:=⟨by decide,by decide⟩
 f:=⟨by decide,by decide⟩
 seg:=⟨by decide,by decide⟩
 off:=⟨by decide,by decide⟩
 seq:=⟨by decide,by decide⟩
 len:=rfl
 rs:=fun x hx=>Q3 (K8 8 x hx)
theorem good_all{r:Rg}(h:r.good=true)(hl:r.rs.length=8):∀x∈r.rs,0≤x∧x<65536:=by
 have:=J2h h
 rwa [List.take_of_length_le (by omega)] at this
theorem jT{x:List Int}(h:XD x=true):(readOf x).good=true∧(readOf x).enc=x:=by
 simpa [XD] using h
theorem QZ:(Tryz.prog.info? 56).map (·.size)=some 16:=by kernel_rfl
theorem Yb:(Tryz.prog.info? 137).map (·.size)=some 128:=by kernel_rfl
theorem Jee:(Tryz.prog.info? 253).map (·.size)=some 6:=by kernel_rfl
theorem Qb:(Tryz.prog.info? 137).bind (·.zero)=some (.agg (u8s (zeros 128)).toArray):=by kernel_rfl
theorem Jax:Tryz.prog.built 137 []=some (u8s (zeros 128)).toArray:=by kernel_rfl
theorem Jay(w:World):(Instr.build 137 #[]).run Tryz.prog w=.ok (.agg (u8s (zeros 128)).toArray) w:=run_build w 137 _ _ Jax
theorem Ke:(Tryz.prog.info? 56).bind (·.zero)=some (.agg Rg.none.cells.toArray):=by kernel_rfl
theorem Jef:Tryz.prog.built 56 []=some Rg.none.cells.toArray:=by kernel_rfl
theorem YS(w:World):(Instr.build 56 #[]).run Tryz.prog w=.ok (.agg Rg.none.cells.toArray) w:=run_build w 56 _ _ Jef
section
variable {ops:Array Oper} {rest:List Oper} {dst:Option Tmp} {x:Operand} {t2:TypeId} {pos:String} {after:Array Edge} {guard:Option (Nat×Bool)} {a:Act} {w:World} {Q:Exit→Act→World→Prop}
theorem yq{g off:Nat}(hA:At w g off cs)(hs:cs.size=16)(hx:a.eval x=.pointer (some ⟨g,off,none⟩))(hw:Region.wanted ⟨dst,.load 56 x,t2,pos,after,guard⟩ (yielded ops a.tmps)=true)(h:wpList Tryz.prog ops Q rest (a.put dst (.agg cs)) w):wpList Tryz.prog ops Q (⟨dst,.load 56 x,t2,pos,after,guard⟩::rest) a w :=
 Jc hw 56 x rfl g off hx cs _ Tryz.underlying56 rfl (by rw [hs];exact QZ) hA h
theorem J4j{g off:Nat}(hA:At w g off cs)(hs:cs.size=128)(hx:a.eval x=.pointer (some ⟨g,off,none⟩))(hw:Region.wanted ⟨dst,.load 137 x,t2,pos,after,guard⟩ (yielded ops a.tmps)=true)(h:wpList Tryz.prog ops Q rest (a.put dst (.agg cs)) w):wpList Tryz.prog ops Q (⟨dst,.load 137 x,t2,pos,after,guard⟩::rest) a w :=
 Jc hw 137 x rfl g off hx cs _ Tryz.underlying137 rfl (by rw [hs];exact Yb) hA h
end
theorem _root_.Go.Proofs.YtdbfmikeaoaebaaGreatDoor.Blk.sub{g:Nat}{l:List Value}(h:Blk w g l)(o:Nat)(e:∀j (hj:j<cs.size),l[o+j]? = some cs[j]):At w g o cs:=fun j hj=>h.cell (e j hj)
theorem box_below(g:Gm)(w:World):Below w.heap.size w (g.box w):=Zq.alloc Zy _
theorem maps_yes(g:Gm)(h:g.Ok)(w:World):Calls Tryz.prog 82 #[g.v] w (Zr w (.int .i64 g.maps)):=by
 have H:=Zh fun w=>JX g h w;obtain⟨⟨h1,h2⟩,_,_,_⟩:=h;go_enter Tryz.func82,Tryz.ntmps82
 go_wp2_with fail
 refine (H.out _).mono ?_;rintro e w1 ⟨rfl,hb⟩;have HB:=Zh (KY hb);clear hb;have c0:=HB.out.2.1.p
 go_wp2_with fail
 go_ret;exact⟨ks (by unfold Gm.maps;rw [Int.tdiv_eq_ediv_of_nonneg (by omega)];omega),HB.out.1⟩
theorem of_out(g:Gm)(h:g.Ok)(n:Int)(hn:¬(4≤n∧n≤4+g.s*g.l-1))(w:World):Calls Tryz.prog 115 #[g.v,.int .i64 n] w (Zr w (.tuple #[.int .i64 0,.int .i64 0,.bool false])):=by
 have HW:=Zh fun w=>XQ n 4 (4+g.s*g.l-1) hn w;have H9:=Zh fun w=>JX g h w;have HB1:=Zh fun w=>Z8 g w;have HB2:=Zh fun w=>Y4 g h w;obtain⟨a0,a1⟩:=h.area;have HG:Hid (GAt (g.box w) w.heap.size g∧w.heap.size<(g.box w).heap.size):=Zh ⟨GAt.box g w,by simp⟩;clear h hn;go_enter Tryz.func115,Tryz.ntmps115
 go_wp2_with fail
 refine J9 (fun wq=>Below (g.box w).heap.size (g.box w) wq) (by kernel_rfl) ?_;refine Jl 0 (some 8) (g.v) rfl rfl (by kernel_rfl) (by kernel_rfl) (by kernel_rfl) (fun _ _ _ h=>h) rfl (fun w hS=>by obtain⟨c0,c1,c2,c3⟩:=HG.out.1.below hS HG.out.2;go_simp) Zq.drew ?_;refine nm ?_;refine Zo 1 fun K hK=>?_;go_simp;refine (H9.out _).mono ?_;rintro e w1 ⟨rfl,hb⟩;have HS1:=Zh (Jk Zq.drew hb);refine hK _ _ HS1.out ?_;clear hK hb K;refine nm ?_;refine Jl 2 (some 10) (.bool false) rfl rfl (by kernel_rfl) (by kernel_rfl) (by kernel_rfl) (fun _ _ _ h=>h) rfl (fun w _=>by go_simp) HS1.out ?_;refine nm ?_;refine Jl 3 (some 11) (.bool false) rfl rfl (by kernel_rfl) (by kernel_rfl) (by kernel_rfl) (fun _ _ _ h=>h) rfl (fun w _=>by go_simp) HS1.out ?_;refine nm ?_;refine Jl 4 (some 12) (.int .i64 n) rfl rfl (by kernel_rfl) (by kernel_rfl) (by kernel_rfl) (fun _ _ _ h=>h) rfl (fun w _=>by go_simp) HS1.out ?_;refine nm ?_;refine Jl 5 (some 13) (g.v) rfl rfl (by kernel_rfl) (by kernel_rfl) (by kernel_rfl) (fun _ _ _ h=>h) rfl (fun w hS=>by obtain⟨c0,c1,c2,c3⟩:=HG.out.1.below hS HG.out.2;go_simp) HS1.out ?_;refine nm ?_;refine Jl 7 (some 15) (g.v) rfl rfl (by kernel_rfl) (by kernel_rfl) (by kernel_rfl) (fun _ _ _ h=>h) rfl (fun w hS=>by obtain⟨c0,c1,c2,c3⟩:=HG.out.1.below hS HG.out.2;go_simp) HS1.out ?_;refine nm ?_;refine Zo 6 fun K hK=>?_;go_simp;refine (HB1.out _).mono ?_;rintro e w2 ⟨rfl,hb⟩;have HS2:=Zh (Jk HS1.out hb);refine hK _ _ HS2.out ?_;clear hK hb K;refine nm ?_;refine Zo 8 fun K hK=>?_;go_simp;refine (HB2.out _).mono ?_;rintro e w3 ⟨rfl,hb⟩;have HS3:=Zh (Jk HS2.out hb);refine hK _ _ HS3.out ?_;clear hK hb K;refine nm ?_;refine Jl 9 (some 17) (.int .i64 ((4+g.s*g.l)-1)) rfl rfl (by kernel_rfl) (by kernel_rfl) (by kernel_rfl) (fun _ _ _ h=>h) rfl (fun w _=>by go_simp <;> first|done|(go_ints;first|done|trivial)) HS3.out ?_;refine nm ?_;refine Zo 10 fun K hK=>?_;go_simp;refine (HW.out _).mono ?_;rintro e w4 ⟨rfl,rfl⟩;refine hK _ _ HS3.out (nm ?_);clear hK K;refine Jl 11 (some 19) (.bool true) rfl rfl (by kernel_rfl) (by kernel_rfl) (by kernel_rfl) (fun _ _ _ h=>h) rfl (fun w _=>by go_simp) HS3.out ?_;refine nm ?_;refine Jl 12 (some 20) (.bool true) rfl rfl (by kernel_rfl) (by kernel_rfl) (by kernel_rfl) (fun _ _ _ h=>h) rfl (fun w _=>by go_simp) HS3.out ?_;refine nm ?_;refine Zd ?_
 go_wp2_with fail
 go_ret3
 exact⟨rfl,(box_below g w).trans (HS3.mono (B':=w.heap.size) (by simp))⟩
theorem of_in(g:Gm)(h:g.Ok)(n:Int)(hn:4≤n∧n≤4+g.s*g.l-1)(w:World):Calls Tryz.prog 115 #[g.v,.int .i64 n] w (Zr w (.tuple #[.int .i64 ((n-4)/g.l),.int .i64 ((n-4)%g.l),.bool true])):=by
 have HW:=Zh fun w=>KP n 4 (4+g.s*g.l-1) hn w;have H9:=Zh fun w=>JX g h w;have HB1:=Zh fun w=>Z8 g w;have HB2:=Zh fun w=>Y4 g h w;obtain⟨a0,a1⟩:=h.area;have HG:Hid (GAt (g.box w) w.heap.size g∧w.heap.size<(g.box w).heap.size):=Zh ⟨GAt.box g w,by simp⟩;obtain⟨_,_,⟨h5,h6⟩,_⟩:=h;obtain⟨hn1,hn2⟩:=hn;go_enter Tryz.func115,Tryz.ntmps115
 go_wp2_with fail
 refine J9 (fun wq=>Below (g.box w).heap.size (g.box w) wq) (by kernel_rfl) ?_;refine Jl 0 (some 8) (g.v) rfl rfl (by kernel_rfl) (by kernel_rfl) (by kernel_rfl) (fun _ _ _ h=>h) rfl (fun w hS=>by obtain⟨c0,c1,c2,c3⟩:=HG.out.1.below hS HG.out.2;go_simp) Zq.drew ?_;refine nm ?_;refine Zo 1 fun K hK=>?_;go_simp;refine (H9.out _).mono ?_;rintro e w1 ⟨rfl,hb⟩;have HS1:=Zh (Jk Zq.drew hb);refine hK _ _ HS1.out ?_;clear hK hb K;refine nm ?_;refine Jl 2 (some 10) (.bool false) rfl rfl (by kernel_rfl) (by kernel_rfl) (by kernel_rfl) (fun _ _ _ h=>h) rfl (fun w _=>by go_simp) HS1.out ?_;refine nm ?_;refine Jl 3 (some 11) (.bool false) rfl rfl (by kernel_rfl) (by kernel_rfl) (by kernel_rfl) (fun _ _ _ h=>h) rfl (fun w _=>by go_simp) HS1.out ?_;refine nm ?_;refine Jl 4 (some 12) (.int .i64 n) rfl rfl (by kernel_rfl) (by kernel_rfl) (by kernel_rfl) (fun _ _ _ h=>h) rfl (fun w _=>by go_simp) HS1.out ?_;refine nm ?_;refine Jl 5 (some 13) (g.v) rfl rfl (by kernel_rfl) (by kernel_rfl) (by kernel_rfl) (fun _ _ _ h=>h) rfl (fun w hS=>by obtain⟨c0,c1,c2,c3⟩:=HG.out.1.below hS HG.out.2;go_simp) HS1.out ?_;refine nm ?_;refine Jl 7 (some 15) (g.v) rfl rfl (by kernel_rfl) (by kernel_rfl) (by kernel_rfl) (fun _ _ _ h=>h) rfl (fun w hS=>by obtain⟨c0,c1,c2,c3⟩:=HG.out.1.below hS HG.out.2;go_simp) HS1.out ?_;refine nm ?_;refine Zo 6 fun K hK=>?_;go_simp;refine (HB1.out _).mono ?_;rintro e w2 ⟨rfl,hb⟩;have HS2:=Zh (Jk HS1.out hb);refine hK _ _ HS2.out ?_;clear hK hb K;refine nm ?_;refine Zo 8 fun K hK=>?_;go_simp;refine (HB2.out _).mono ?_;rintro e w3 ⟨rfl,hb⟩;have HS3:=Zh (Jk HS2.out hb);refine hK _ _ HS3.out ?_;clear hK hb K;refine nm ?_;refine Jl 9 (some 17) (.int .i64 ((4+g.s*g.l)-1)) rfl rfl (by kernel_rfl) (by kernel_rfl) (by kernel_rfl) (fun _ _ _ h=>h) rfl (fun w _=>by go_simp <;> first|done|(go_ints;first|done|trivial)) HS3.out ?_;refine nm ?_;refine Zo 10 fun K hK=>?_;go_simp;refine (HW.out _).mono ?_;rintro e w4 ⟨rfl,rfl⟩;refine hK _ _ HS3.out (nm ?_);clear hK K;refine Jl 11 (some 19) (.bool false) rfl rfl (by kernel_rfl) (by kernel_rfl) (by kernel_rfl) (fun _ _ _ h=>h) rfl (fun w _=>by go_simp) HS3.out ?_;refine nm ?_;refine Jl 12 (some 20) (.bool false) rfl rfl (by kernel_rfl) (by kernel_rfl) (by kernel_rfl) (fun _ _ _ h=>h) rfl (fun w _=>by go_simp) HS3.out ?_;refine nm ?_;refine Zd ?_;obtain⟨c0,c1,c2,c3⟩:=HG.out.1.below HS3.out HG.out.2
 go_wp2_with fail
 refine (HB1.out _).mono ?_;rintro e wA ⟨rfl,hb⟩;have HSA:=Zh (Jk HS3.out hb);obtain⟨c0,c1,c2,c3⟩:=HG.out.1.below HSA.out HG.out.2;clear hb
 go_wp2_with fail
 go_quiet (fail)
 go_wp2_with fail
 go_ret3
 exact⟨rfl,Qn ((box_below g w).trans (HSA.mono (B':=w.heap.size) (by simp))) nq⟩
theorem zY(n a b:Int)(w:World):Calls Tryz.prog 104 #[.int .i64 n,.int .i64 a,.int .i64 b] w fun e w'=>e=.returned (.bool (within n a b))∧w=w':=by
 by_cases h1:a≤n
 · by_cases h2:n≤b
   · go_enter Tryz.func104,Tryz.ntmps104
     go_wp2_with fail
     go_ret;exact⟨Jb (by simp [within,h1,h2]),rfl⟩
   · go_enter Tryz.func104,Tryz.ntmps104
     go_wp2_with fail
     go_ret;exact⟨Jb (by simp [within,h1,h2]),rfl⟩
 · go_enter Tryz.func104,Tryz.ntmps104
   go_wp2_with fail
   go_ret;exact⟨Jb (by simp [within];omega),rfl⟩
theorem put4_any(w:World)(g o cap:Nat)(l:List Value)(hb:Blk w g l)(ho:o+4≤l.length)(v:Int)(hv:0≤v∧v<4294967296) :
 Calls Tryz.prog 130 #[.slice (some ⟨g,o,none⟩) 4 cap,.int .u32 v] w fun e w'=>e=.returned (.tuple #[])∧Blk w' g (lay l o (le 4 v))∧Only (fun k=>k=g) w w':=by
 obtain⟨hv1,hv2⟩:=hv;go_enter Tryz.func130,Tryz.ntmps130
 go_wp2_with fail
 go_loopg [7] 4 (fun q i wr=>∃k:Nat,4-k≤q∧k≤4∧i=.int .i64 k∧Blk wr g (lay l o ((le 4 v).take k))∧Only (fun k=>k=g) w wr)
 case atStart=>exact⟨0,by omega,by omega,rfl,by rw [List.take_zero,ko];exact hb,Only.refl _ _⟩
 case round =>
  obtain⟨k,hg,hk,rfl,hb1,hon⟩:=hrel;rcases (show k=0∨k=1∨k=2∨k=3∨k=4 by omega) with rfl|rfl|rfl|rfl|rfl
  · have hcell:=hb1.cell (Qh (k:=o) ho (by rw [List.length_take,J7];omega) (by omega));have hfro:=hb1.frozen o;have HB:=Zh hb1;have HO:=Zh hon;clear hb1 hon
    go_wp2_with fail
    go_roundg (4-1)
    case measure=>omega
    case rel =>
     refine⟨1,by omega,by omega,by go_num,?_,HO.setCell (.inl rfl) _⟩;have hs:=HB.set (o+0) (.int .u8 (v%256));rw [show lay l o ((le 4 v).take 1)=(lay l o ((le 4 v).take 0)).set (o+0) (.int .u8 (v%256)) from (by
      have:=KS l o ((le 4 v).take 0) (v%256) (by rw [List.length_take,J7];omega)
      simp only [le4,List.take_succ_cons,List.take_zero,List.length_cons,List.length_nil,List.cons_append,List.nil_append,Nat.zero_add,Nat.reduceAdd] at this ⊢
      exact this.symm)]
     first|exact hs|simpa using hs|(rw [show v/16777216%256=v/16777216 by omega] at hs ⊢;exact hs)
  · have hcell:=hb1.cell (Qh (k:=o+1) ho (by rw [List.length_take,J7];omega) (by omega));have hfro:=hb1.frozen (o+1);have HB:=Zh hb1;have HO:=Zh hon;clear hb1 hon
    go_wp2_with fail
    go_roundg (4-2)
    case measure=>omega
    case rel =>
     refine⟨2,by omega,by omega,by go_num,?_,HO.setCell (.inl rfl) _⟩;have hs:=HB.set (o+1) (.int .u8 (v/256%256));rw [show lay l o ((le 4 v).take 2)=(lay l o ((le 4 v).take 1)).set (o+1) (.int .u8 (v/256%256)) from (by
      have:=KS l o ((le 4 v).take 1) (v/256%256) (by rw [List.length_take,J7];omega)
      simp only [le4,List.take_succ_cons,List.take_zero,List.length_cons,List.length_nil,List.cons_append,List.nil_append,Nat.zero_add,Nat.reduceAdd] at this ⊢
      exact this.symm)]
     first|exact hs|simpa using hs|(rw [show v/16777216%256=v/16777216 by omega] at hs ⊢;exact hs)
  · have hcell:=hb1.cell (Qh (k:=o+2) ho (by rw [List.length_take,J7];omega) (by omega));have hfro:=hb1.frozen (o+2);have HB:=Zh hb1;have HO:=Zh hon;clear hb1 hon
    go_wp2_with fail
    go_roundg (4-3)
    case measure=>omega
    case rel =>
     refine⟨3,by omega,by omega,by go_num,?_,HO.setCell (.inl rfl) _⟩;have hs:=HB.set (o+2) (.int .u8 (v/65536%256));rw [show lay l o ((le 4 v).take 3)=(lay l o ((le 4 v).take 2)).set (o+2) (.int .u8 (v/65536%256)) from (by
      have:=KS l o ((le 4 v).take 2) (v/65536%256) (by rw [List.length_take,J7];omega)
      simp only [le4,List.take_succ_cons,List.take_zero,List.length_cons,List.length_nil,List.cons_append,List.nil_append,Nat.zero_add,Nat.reduceAdd] at this ⊢
      exact this.symm)]
     first|exact hs|simpa using hs|(rw [show v/16777216%256=v/16777216 by omega] at hs ⊢;exact hs)
  · have hcell:=hb1.cell (Qh (k:=o+3) ho (by rw [List.length_take,J7];omega) (by omega));have hfro:=hb1.frozen (o+3);have HB:=Zh hb1;have HO:=Zh hon;clear hb1 hon
    go_wp2_with fail
    go_roundg (4-4)
    case measure=>omega
    case rel =>
     refine⟨4,by omega,by omega,by go_num,?_,HO.setCell (.inl rfl) _⟩;have hs:=HB.set (o+3) (.int .u8 (v/16777216%256));rw [show lay l o ((le 4 v).take 4)=(lay l o ((le 4 v).take 3)).set (o+3) (.int .u8 (v/16777216%256)) from (by
      have:=KS l o ((le 4 v).take 3) (v/16777216%256) (by rw [List.length_take,J7];omega)
      simp only [le4,List.take_succ_cons,List.take_zero,List.length_cons,List.length_nil,List.cons_append,List.nil_append,Nat.zero_add,Nat.reduceAdd] at this ⊢
      exact this.symm)]
     first|exact hs|simpa using hs|(rw [show v/16777216%256=v/16777216 by omega] at hs ⊢;exact hs)
  · have HB:=Zh hb1;have HO:=Zh hon;clear hb1 hon
    go_wp2_with fail
    go_end0
    exact⟨rfl,by simpa [le4] using HB.out,HO.out⟩
theorem put2_any(w:World)(g o cap:Nat)(l:List Value)(hb:Blk w g l)(ho:o+2≤l.length)(v:Int)(hv:0≤v∧v<4294967296) :
 Calls Tryz.prog 130 #[.slice (some ⟨g,o,none⟩) 2 cap,.int .u32 v] w fun e w'=>e=.returned (.tuple #[])∧Blk w' g (lay l o (le 2 v))∧Only (fun k=>k=g) w w':=by
 obtain⟨hv1,hv2⟩:=hv;go_enter Tryz.func130,Tryz.ntmps130
 go_wp2_with fail
 go_loopg [7] 2 (fun q i wr=>∃k:Nat,2-k≤q∧k≤2∧i=.int .i64 k∧Blk wr g (lay l o ((le 2 v).take k))∧Only (fun k=>k=g) w wr)
 case atStart=>exact⟨0,by omega,by omega,rfl,by rw [List.take_zero,ko];exact hb,Only.refl _ _⟩
 case round =>
  obtain⟨k,hg,hk,rfl,hb1,hon⟩:=hrel;rcases (show k=0∨k=1∨k=2 by omega) with rfl|rfl|rfl
  · have hcell:=hb1.cell (Qh (k:=o) ho (by rw [List.length_take,J7];omega) (by omega));have hfro:=hb1.frozen o;have HB:=Zh hb1;have HO:=Zh hon;clear hb1 hon
    go_wp2_with fail
    go_roundg (2-1)
    case measure=>omega
    case rel =>
     refine⟨1,by omega,by omega,by go_num,?_,HO.setCell (.inl rfl) _⟩;have hs:=HB.set (o+0) (.int .u8 (v%256));rw [show lay l o ((le 2 v).take 1)=(lay l o ((le 2 v).take 0)).set (o+0) (.int .u8 (v%256)) from (by
      have:=KS l o ((le 2 v).take 0) (v%256) (by rw [List.length_take,J7];omega)
      simp only [le2,List.take_succ_cons,List.take_zero,List.length_cons,List.length_nil,List.cons_append,List.nil_append,Nat.zero_add,Nat.reduceAdd] at this ⊢
      exact this.symm)]
     first|exact hs|simpa using hs|(rw [show v/16777216%256=v/16777216 by omega] at hs ⊢;exact hs)
  · have hcell:=hb1.cell (Qh (k:=o+1) ho (by rw [List.length_take,J7];omega) (by omega));have hfro:=hb1.frozen (o+1);have HB:=Zh hb1;have HO:=Zh hon;clear hb1 hon
    go_wp2_with fail
    go_roundg (2-2)
    case measure=>omega
    case rel =>
     refine⟨2,by omega,by omega,by go_num,?_,HO.setCell (.inl rfl) _⟩;have hs:=HB.set (o+1) (.int .u8 (v/256%256));rw [show lay l o ((le 2 v).take 2)=(lay l o ((le 2 v).take 1)).set (o+1) (.int .u8 (v/256%256)) from (by
      have:=KS l o ((le 2 v).take 1) (v/256%256) (by rw [List.length_take,J7];omega)
      simp only [le2,List.take_succ_cons,List.take_zero,List.length_cons,List.length_nil,List.cons_append,List.nil_append,Nat.zero_add,Nat.reduceAdd] at this ⊢
      exact this.symm)]
     first|exact hs|simpa using hs|(rw [show v/16777216%256=v/16777216 by omega] at hs ⊢;exact hs)
  · have HB:=Zh hb1;have HO:=Zh hon;clear hb1 hon
    go_wp2_with fail
    go_end0
    exact⟨rfl,by simpa [le2] using HB.out,HO.out⟩
theorem get4_any(w:World)(g o cap:Nat)(l:List Int)(hl:l.length=4)(hb:∀x∈l,Ks x)(hc:∀i x,l[i]? = some x→w.cell? ⟨g,o+i,none⟩=some (.int .u8 x)) :
 Calls Tryz.prog 183 #[.slice (some ⟨g,o,none⟩) 4 cap] w fun e w'=>e=.returned (.int .u32 (num l))∧w=w':=by
 obtain⟨x0,x1,x2,x3,rfl⟩:∃x0 x1 x2 x3,l=[x0,x1,x2,x3]:=by
  match l,hl with
  | [x0,x1,x2,x3],_=>exact⟨x0,x1,x2,x3,rfl⟩
 have c0:=hc 0 x0 rfl;obtain⟨p0,q0⟩:=hb x0 (by simp);have c1:=hc 1 x1 rfl;obtain⟨p1,q1⟩:=hb x1 (by simp);have c2:=hc 2 x2 rfl;obtain⟨p2,q2⟩:=hb x2 (by simp);have c3:=hc 3 x3 rfl;obtain⟨p3,q3⟩:=hb x3 (by simp);simp only [Nat.add_zero] at c0;clear hc hb hl;go_enter Tryz.func183,Tryz.ntmps183
 go_wp2_with fail
 go_loopg [3,8] 4 (fun q r i wr=>∃k:Nat,4-k≤q∧k≤4∧i=.int .i64 k∧r=.int .u32 (num ([x0,x1,x2,x3].take k))∧w=wr)
 case atStart=>exact⟨0,by omega,by omega,rfl,rfl,rfl⟩
 case round =>
  obtain⟨k,hg,hk,rfl,rfl,rfl⟩:=hrel;rcases (show k=0∨k=1∨k=2∨k=3∨k=4 by omega) with rfl|rfl|rfl|rfl|rfl
  · simp only [List.take_succ_cons,List.take_zero,num]
    go_wp2_with fail
    go_roundg (4-1)
    case measure=>omega
    case rel =>
     refine⟨1,by omega,by omega,by go_num,?_,rfl⟩;simp only [List.take_succ_cons,List.take_zero,num];refine congrArg (Value.int .u32) ?_;rw [ZO x0 (by omega)];omega
  · simp only [List.take_succ_cons,List.take_zero,num]
    go_wp2_with fail
    go_roundg (4-2)
    case measure=>omega
    case rel =>
     refine⟨2,by omega,by omega,by go_num,?_,rfl⟩;simp only [List.take_succ_cons,List.take_zero,num];refine congrArg (Value.int .u32) ?_;rw [u32_or8 _ _ (by omega) (by omega) (by omega) (by omega) (by omega)];omega
  · simp only [List.take_succ_cons,List.take_zero,num]
    go_wp2_with fail
    go_roundg (4-3)
    case measure=>omega
    case rel =>
     refine⟨3,by omega,by omega,by go_num,?_,rfl⟩;simp only [List.take_succ_cons,List.take_zero,num];refine congrArg (Value.int .u32) ?_;rw [u32_or16 _ _ (by omega) (by omega) (by omega) (by omega) (by omega)];omega
  · simp only [List.take_succ_cons,List.take_zero,num]
    go_wp2_with fail
    go_roundg (4-4)
    case measure=>omega
    case rel =>
     refine⟨4,by omega,by omega,by go_num,?_,rfl⟩;simp only [List.take_succ_cons,List.take_zero,num];refine congrArg (Value.int .u32) ?_;rw [u32_or24 _ _ (by omega) (by omega) (by omega) (by omega) (by omega)];omega
  · simp only [List.take_succ_cons,List.take_zero,num]
    go_wp2_with fail
    go_ret;exact⟨rfl,rfl⟩
theorem get2_any(w:World)(g o cap:Nat)(l:List Int)(hl:l.length=2)(hb:∀x∈l,Ks x)(hc:∀i x,l[i]? = some x→w.cell? ⟨g,o+i,none⟩=some (.int .u8 x)) :
 Calls Tryz.prog 183 #[.slice (some ⟨g,o,none⟩) 2 cap] w fun e w'=>e=.returned (.int .u32 (num l))∧w=w':=by
 obtain⟨x0,x1,rfl⟩:∃x0 x1,l=[x0,x1]:=by
  match l,hl with
  | [x0,x1],_=>exact⟨x0,x1,rfl⟩
 have c0:=hc 0 x0 rfl;obtain⟨p0,q0⟩:=hb x0 (by simp);have c1:=hc 1 x1 rfl;obtain⟨p1,q1⟩:=hb x1 (by simp);simp only [Nat.add_zero] at c0;clear hc hb hl;go_enter Tryz.func183,Tryz.ntmps183
 go_wp2_with fail
 go_loopg [3,8] 2 (fun q r i wr=>∃k:Nat,2-k≤q∧k≤2∧i=.int .i64 k∧r=.int .u32 (num ([x0,x1].take k))∧w=wr)
 case atStart=>exact⟨0,by omega,by omega,rfl,rfl,rfl⟩
 case round =>
  obtain⟨k,hg,hk,rfl,rfl,rfl⟩:=hrel;rcases (show k=0∨k=1∨k=2 by omega) with rfl|rfl|rfl
  · simp only [List.take_succ_cons,List.take_zero,num]
    go_wp2_with fail
    go_roundg (2-1)
    case measure=>omega
    case rel =>
     refine⟨1,by omega,by omega,by go_num,?_,rfl⟩;simp only [List.take_succ_cons,List.take_zero,num];refine congrArg (Value.int .u32) ?_;rw [ZO x0 (by omega)];omega
  · simp only [List.take_succ_cons,List.take_zero,num]
    go_wp2_with fail
    go_roundg (2-2)
    case measure=>omega
    case rel =>
     refine⟨2,by omega,by omega,by go_num,?_,rfl⟩;simp only [List.take_succ_cons,List.take_zero,num];refine congrArg (Value.int .u32) ?_;rw [u32_or8 _ _ (by omega) (by omega) (by omega) (by omega) (by omega)];omega
  · simp only [List.take_succ_cons,List.take_zero,num]
    go_wp2_with fail
    go_ret;exact⟨rfl,rfl⟩
theorem qs(w:World)(g i:Nat)(hi:i<8):Calls Tryz.prog 132 #[.pointer (some ⟨g,64,none⟩),.int .i64 i] w fun e w'=>e=.returned (.slice (some ⟨g,70+2*i,none⟩) 2 (58-2*i))∧w=w':=by
 rcases (show i=0∨i=1∨i=2∨i=3∨i=4∨i=5∨i=6∨i=7 by omega) with rfl|rfl|rfl|rfl|rfl|rfl|rfl|rfl
 all_goals
  go_enter Tryz.func132,Tryz.ntmps132
  go_wp2_with fail
  go_ret;exact⟨rfl,rfl⟩
abbrev Jaz(g:Nat):Value:=.agg #[.pointer (some ⟨g,1,none⟩),.pointer (some ⟨g,2,none⟩),.pointer (some ⟨g,3,none⟩),.pointer (some ⟨g,4,none⟩),.pointer (some ⟨g,5,none⟩),.pointer (some ⟨g,6,none⟩)]
theorem zZ(g k:Nat)(hk:k<6)(w:World):(Instr.index 253 (Jaz g) (.int .i64 k)).run Tryz.prog w=.ok (.pointer (some ⟨g,1+k,none⟩)) w:=by
 rcases (show k=0∨k=1∨k=2∨k=3∨k=4∨k=5 by omega) with rfl|rfl|rfl|rfl|rfl|rfl <;> kernel_rfl
theorem J00(g:Nat)(w:World):Calls Tryz.prog 131 #[.pointer (some ⟨g,0,none⟩)] w (Zr w (Jaz g)):=by
 go_enter Tryz.func131,Tryz.ntmps131
 go_wp2_with fail
 go_region
 all_goals go_wp2_with fail
 exact bodyPost_ret (v:=Jaz g) (results_cell_row rfl _ _ w.heap.size 253 _ _ _ rfl (heap_alloc_new w _) Tryz.underlying253 rfl Jee) rfl ⟨rfl,(Zq.alloc Zy _).drew⟩
theorem _root_.Go.Proofs.YtdbfmikeaoaebaaGreatDoor.Only.cell{g:Nat}(ho:Only (fun k=>k=g) w w'){a:Addr}(hne:a.block≠g)(hx:w.cell? a=some v):w'.cell? a=some v:=by
 have hb:=ho.block a.block (Kw hx) hne;rw [←hx];simp only [World.cell?,hb]
theorem _root_.Go.Proofs.YtdbfmikeaoaebaaGreatDoor.Chain.only{g:Nat}{n:Int}(ho:Only (fun k=>k=g) w w')(hg:∀t,w.cell? ⟨g,0,none⟩≠some (.string t)):∀{ts:List ByteArray} {v:Value},Chain w n ts v→Chain w' n ts v
 | [],_,h=>h
 | _::_,_,⟨a,u,h1,h2,h3,h4,h5⟩=>by
  have hne:a≠g:=by
   rintro rfl;exact hg _ h2
  exact⟨a,u,h1,ho.cell (a:=⟨a,0,none⟩) hne h2,ho.cell (a:=⟨a,1,none⟩) hne h3,ho.cell (a:=⟨a,2,none⟩) hne h4,Chain.only ho hg h5⟩
theorem _root_.Go.Proofs.YtdbfmikeaoaebaaGreatDoor.Chain.keep{g:Nat}{n:Int}{ts:List ByteArray}(h:Chain w n ts v)(ho:Only (fun k=>k=g) w w')(hg:∀t,w.cell? ⟨g,0,none⟩≠some (.string t)):Chain w' n ts v:=Chain.only ho hg h
theorem _root_.Go.Proofs.YtdbfmikeaoaebaaGreatDoor.ErrVar.keep{g:Nat}(h:ErrVar w)(ho:Only (fun k=>k=g) w w')(hg:B≤g)(hB:0<B):ErrVar w':=ho.cell (a:=⟨0,0,none⟩) (by simp only;omega) h
theorem _root_.Go.Proofs.YtdbfmikeaoaebaaGreatDoor.Blk.noStr{g:Nat}{l:List Value}(h:Blk w g l)(hl:∀v∈l,∀t,v≠.string t):∀t,w.cell? ⟨g,0,none⟩≠some (.string t):=fun t e=>by
 obtain⟨ty,ht⟩:=h;rw [cell_of_row w g 0 _ ty _ ht] at e;have:l[0]? = some (.string t):=by simpa using e
 exact hl _ (List.mem_of_getElem? this) t rfl
theorem u8s_noStr(l:List Int):∀v∈u8s l,∀t,v≠.string t:=fun v hv t e=>by
 obtain⟨z,_,rfl⟩:=List.mem_map.1 hv;cases e
theorem Rg.noStr(r:Rg):∀v∈r.cells,∀t,v≠.string t:=fun v hv t e=>by
 subst e;simp [Rg.cells,Rg.hd] at hv
theorem Rg.at24{g:Nat}{r:Rg}(h:Blk w g r.cells):At w g 1 #[.int .i64 r.p,.int .i64 r.s,.int .i64 r.l,.int .i64 r.f]:=h.sub 1 fun j hj=>by
 have:j<4:=hj;rcases (show j=0∨j=1∨j=2∨j=3 by omega) with rfl|rfl|rfl|rfl <;> rfl
theorem Rg.at25{g:Nat}{r:Rg}(h:Blk w g r.cells):At w g 8 (Jq r.rs).toArray:=h.sub 8 fun j hj=>by
 have hj':j<r.rs.length:=by simpa using hj
 rw [Rg.root_cell (List.getElem?_eq_getElem hj')];simp
theorem ZZ{o:Nat}(h:l.length=m)(ho:o+n≤m):((l.drop o).take n).length=n:=by
 simp;omega
theorem XX{g:Nat}{r:Rg}(h:Blk w g r.cells){x:Int}(hx:r.rs[k]? = some x):w.cell? ⟨g,8+k,none⟩=some (.int .i64 x):=h.cell (Rg.root_cell hx)
theorem istr_any(k:Nat)(hk:k<8)(w:World):Calls Tryz.prog 150 #[.int .i64 k] w fun e w'=>∃s:ByteArray,e=.returned (.string s)∧s.size≤100∧w=w':=by
 rcases (show k=0∨k=1∨k=2∨k=3∨k=4∨k=5∨k=6∨k=7 by omega) with rfl|rfl|rfl|rfl|rfl|rfl|rfl|rfl
 all_goals
  go_enter Tryz.func150,Tryz.ntmps150
  go_wp2_with fail
  go_ret;exact⟨_,rfl,by decide,rfl⟩
theorem format_any(k:Nat)(hk:k<8)(w:World):Calls Tryz.prog 118 #[.int .i64 k,.int .i64 10] w fun e w'=>∃s:ByteArray,e=.returned (.string s)∧s.size≤100∧w=w':=by
 have H:=Zh (istr_any k hk w);go_enter Tryz.func118,Tryz.ntmps118
 go_wp2_with fail
 refine H.mono ?_;rintro e w' ⟨s,rfl,hs,rfl⟩
 go_wp2_with fail
 go_ret;exact⟨s,rfl,hs,rfl⟩
theorem itoa1_any(k:Nat)(hk:k<8)(w:World):Calls Tryz.prog 92 #[.int .i64 k] w fun e w'=>∃s:ByteArray,e=.returned (.string s)∧s.size≤100∧w=w':=by
 have H:=Zh (format_any k hk w);go_enter Tryz.func92,Tryz.ntmps92
 go_wp2_with fail
 refine H.mono ?_;rintro e w' ⟨s,rfl,hs,rfl⟩
 go_wp2_with fail
 go_ret;exact⟨s,rfl,hs,rfl⟩
theorem itoa_any(k:Nat)(hk:k<8)(w:World):Calls Tryz.prog 60 #[.int .i64 k] w fun e w'=>∃s:ByteArray,e=.returned (.string s)∧s.size≤100∧w=w':=by
 have H:=Zh (itoa1_any k hk w);go_enter Tryz.func60,Tryz.ntmps60
 go_wp2_with fail
 refine H.mono ?_;rintro e w' ⟨s,rfl,hs,rfl⟩
 go_wp2_with fail
 go_ret;exact⟨s,rfl,hs,rfl⟩
theorem J6m(r:Rg)(hw:r.Wf)(hg:r.g.Ok)(k:Nat)(hk:k<8)(x:Int)(hx:r.rs[k]? = some x)(h:x=0)(w:World):Calls Tryz.prog 105 #[.agg r.cells.toArray,.int .i64 k] w fun e w'=>e=.returned .nilIface∧Below w.heap.size w w':=by
 have HWF:=Zh hw;have HOK:=Zh hg;have HX:=Zh hx;have HBL:Hid (Below w.heap.size w w):=Zh Zq;clear hw hg hx;go_enter Tryz.func105,Tryz.ntmps105;go_upto_region 0 with fail;refine Zl ?_;refine JV rfl rfl ?_;intro w1 hA hb hl;refine nm ?_;clear hl;have HG2:Hid (w.heap.size≤w.heap.size):=Zh HBL.size;have F3:=Zh (HBL.trans (hb.mono HBL.size));clear HBL;have F4:Hid (Blk w1 w.heap.size r.cells):=Zh hA;clear hA hb;refine tk (Value.nilIface) ?_;refine Zn ?_;have c8:=XX F4.out HX.out;have c1:=F4.cell (i:=1) (v:=.int .i64 r.p) rfl;have c2:=F4.cell (i:=2) (v:=.int .i64 r.s) rfl;have c3:=F4.cell (i:=3) (v:=.int .i64 r.l) rfl;have c4:=F4.cell (i:=4) (v:=.int .i64 r.f) rfl;have h0:(x == 0)=true:=by simpa using h
 go_wp2_with fail
 go_ret;exact⟨rfl,F3.out⟩
theorem J6n(r:Rg)(hw:r.Wf)(hg:r.g.Ok)(k:Nat)(hk:k<8)(x:Int)(hx:r.rs[k]? = some x)(h:x≠0)(hm:r.g.maps≤(k:Int))(w:World):Calls Tryz.prog 105 #[.agg r.cells.toArray,.int .i64 k] w fun e w'=>∃T d t,e=.returned (.iface T d)∧Chain w' 11 [t] (.iface T d)∧Below w.heap.size w w':=by
 have HWF:=Zh hw;have HOK:=Zh hg;have HX:=Zh hx;have HBL:Hid (Below w.heap.size w w):=Zh Zq;clear hw hg hx;go_enter Tryz.func105,Tryz.ntmps105;go_upto_region 0 with fail;refine Zl ?_;refine JV rfl rfl ?_;intro w1 hA hb hl;refine nm ?_;clear hl;have HG2:Hid (w.heap.size≤w.heap.size):=Zh HBL.size;have F3:=Zh (HBL.trans (hb.mono HBL.size));clear HBL;have F4:Hid (Blk w1 w.heap.size r.cells):=Zh hA;clear hA hb;refine tk (Value.nilIface) ?_;refine Zn ?_;have c8:=XX F4.out HX.out;have c1:=F4.cell (i:=1) (v:=.int .i64 r.p) rfl;have c2:=F4.cell (i:=2) (v:=.int .i64 r.s) rfl;have c3:=F4.cell (i:=3) (v:=.int .i64 r.l) rfl;have c4:=F4.cell (i:=4) (v:=.int .i64 r.f) rfl;have h0:(x == 0)=false:=by simpa using h
 go_wp2_with fail
 refine (maps_yes r.g HOK.out _).mono ?_;rintro e w2 ⟨rfl,hb⟩;have F5:=Zh (F3.trans (hb.mono F3.size));have F6:=Zh (F4.below hb F4.lt);clear F3 F4;clear hb c1 c2 c3 c4 c8
 go_wp2_with fail
 refine (Qf 11 _ _ rfl).mono ?_;rintro e w9 ⟨v,rfl,hc,hb⟩;obtain⟨T,d,rfl⟩:=hc.shape;have HB9:=Zh (F5.trans (hb.mono F5.size));have HC9:=Zh hc;clear hc hb
 go_wp2_with fail
 go_ret;exact⟨T,d,_,rfl,HC9.out,HB9.out⟩
theorem Jeg(r:Rg)(hw:r.Wf)(hg:r.g.Ok)(k:Nat)(hk:k<8)(x:Int)(hx:r.rs[k]? = some x)(h:x≠0)(hm:¬r.g.maps≤(k:Int))(hin:4≤x∧x≤4+r.g.s*r.g.l-1)(w:World):Calls Tryz.prog 105 #[.agg r.cells.toArray,.int .i64 k] w fun e w'=>e=.returned .nilIface∧Below w.heap.size w w':=by
 have HWF:=Zh hw;have HOK:=Zh hg;have HX:=Zh hx;have HBL:Hid (Below w.heap.size w w):=Zh Zq;clear hw hg hx;go_enter Tryz.func105,Tryz.ntmps105;go_upto_region 0 with fail;refine Zl ?_;refine JV rfl rfl ?_;intro w1 hA hb hl;refine nm ?_;clear hl;have HG2:Hid (w.heap.size≤w.heap.size):=Zh HBL.size;have F3:=Zh (HBL.trans (hb.mono HBL.size));clear HBL;have F4:Hid (Blk w1 w.heap.size r.cells):=Zh hA;clear hA hb;refine tk (Value.nilIface) ?_;refine Zn ?_;have c8:=XX F4.out HX.out;have c1:=F4.cell (i:=1) (v:=.int .i64 r.p) rfl;have c2:=F4.cell (i:=2) (v:=.int .i64 r.s) rfl;have c3:=F4.cell (i:=3) (v:=.int .i64 r.l) rfl;have c4:=F4.cell (i:=4) (v:=.int .i64 r.f) rfl;have h0:(x == 0)=false:=by simpa using h
 go_wp2_with fail
 refine (maps_yes r.g HOK.out _).mono ?_;rintro e w2 ⟨rfl,hb⟩;have F5:=Zh (F3.trans (hb.mono F3.size));have F6:=Zh (F4.below hb F4.lt);clear F3 F4;clear hb c1 c2 c3 c4 c8;go_upto_region 5 with fail;refine J9 (fun wq=>Below w2.heap.size w2 wq) (by kernel_rfl) ?_;refine th 0 20 (.pointer (some ⟨w.heap.size,1,none⟩)) Zq.drew ?_;refine th 1 21 (.agg #[.int .i64 r.p,.int .i64 r.s,.int .i64 r.l,.int .i64 r.f]) Zq.drew ?_ (hy:=fun wq hS=>by exact exec_load_at wq _ _ 23 _ rfl w.heap.size 1 rfl (#[.int .i64 r.p,.int .i64 r.s,.int .i64 r.l,.int .i64 r.f]) _ Tryz.underlying23 rfl info23 (Rg.at24 (F6.below hS F6.lt)));refine th 2 22 (.int .i64 k) Zq.drew ?_;refine th 3 23 (.pointer (some ⟨w.heap.size,8,none⟩)) Zq.drew ?_;refine th 4 24 (.pointer (some ⟨w.heap.size,8+k,none⟩)) Zq.drew ?_ (hy:=fun wq hS=>by go_simp <;> (intro _;omega));refine th 5 25 (.int .i64 x) Zq.drew ?_ (hy:=fun wq hS=>by have hq:=XX (F6.below hS F6.lt) HX.out;go_simp);refine Zo 6 fun K hK=>?_;go_simp;refine (of_in r.g HOK.out x hin _).mono ?_;rintro e w7 ⟨rfl,hb⟩;have HS8:=Zh (Jk Zq.drew hb);clear hb;refine hK _ _ HS8.out (nm ?_);clear hK K;refine th 7 19 (.tuple #[.int .i64 ((x-4)/r.l),.int .i64 ((x-4)%r.l),.bool true]) HS8.out ?_;refine th 8 27 (.int .i64 ((x-4)/r.l)) HS8.out ?_;refine th 9 28 (.int .i64 ((x-4)%r.l)) HS8.out ?_;refine th 10 29 (.bool true) HS8.out ?_;refine th 11 5 (.int .i64 ((x-4)/r.l)) HS8.out ?_;refine th 12 6 (.int .i64 ((x-4)%r.l)) HS8.out ?_;refine th 13 7 (.bool true) HS8.out ?_;refine Zd ?_;have hb:=HS8.out;have F9:=Zh (F5.trans (hb.mono F5.size));have F10:=Zh (F6.below hb F6.lt);clear F5 F6;clear hb
 go_wp2_with fail
 go_ret;exact⟨rfl,F9.out⟩
theorem Jb0(r:Rg)(hw:r.Wf)(hg:r.g.Ok)(k:Nat)(hk:k<8)(x:Int)(hx:r.rs[k]? = some x)(h:x≠0)(hm:¬r.g.maps≤(k:Int))(hin:¬(4≤x∧x≤4+r.g.s*r.g.l-1))(w:World):Calls Tryz.prog 105 #[.agg r.cells.toArray,.int .i64 k] w fun e w'=>∃T d t,e=.returned (.iface T d)∧Chain w' 11 [t] (.iface T d)∧Below w.heap.size w w':=by
 have HWF:=Zh hw;have HOK:=Zh hg;have HX:=Zh hx;have HBL:Hid (Below w.heap.size w w):=Zh Zq;clear hw hg hx;go_enter Tryz.func105,Tryz.ntmps105;go_upto_region 0 with fail;refine Zl ?_;refine JV rfl rfl ?_;intro w1 hA hb hl;refine nm ?_;clear hl;have HG2:Hid (w.heap.size≤w.heap.size):=Zh HBL.size;have F3:=Zh (HBL.trans (hb.mono HBL.size));clear HBL;have F4:Hid (Blk w1 w.heap.size r.cells):=Zh hA;clear hA hb;refine tk (Value.nilIface) ?_;refine Zn ?_;have c8:=XX F4.out HX.out;have c1:=F4.cell (i:=1) (v:=.int .i64 r.p) rfl;have c2:=F4.cell (i:=2) (v:=.int .i64 r.s) rfl;have c3:=F4.cell (i:=3) (v:=.int .i64 r.l) rfl;have c4:=F4.cell (i:=4) (v:=.int .i64 r.f) rfl;have h0:(x == 0)=false:=by simpa using h
 go_wp2_with fail
 refine (maps_yes r.g HOK.out _).mono ?_;rintro e w2 ⟨rfl,hb⟩;have F5:=Zh (F3.trans (hb.mono F3.size));have F6:=Zh (F4.below hb F4.lt);clear F3 F4;clear hb c1 c2 c3 c4 c8;go_upto_region 5 with fail;refine J9 (fun wq=>Below w2.heap.size w2 wq) (by kernel_rfl) ?_;refine th 0 20 (.pointer (some ⟨w.heap.size,1,none⟩)) Zq.drew ?_;refine th 1 21 (.agg #[.int .i64 r.p,.int .i64 r.s,.int .i64 r.l,.int .i64 r.f]) Zq.drew ?_ (hy:=fun wq hS=>by exact exec_load_at wq _ _ 23 _ rfl w.heap.size 1 rfl (#[.int .i64 r.p,.int .i64 r.s,.int .i64 r.l,.int .i64 r.f]) _ Tryz.underlying23 rfl info23 (Rg.at24 (F6.below hS F6.lt)));refine th 2 22 (.int .i64 k) Zq.drew ?_;refine th 3 23 (.pointer (some ⟨w.heap.size,8,none⟩)) Zq.drew ?_;refine th 4 24 (.pointer (some ⟨w.heap.size,8+k,none⟩)) Zq.drew ?_ (hy:=fun wq hS=>by go_simp <;> (intro _;omega));refine th 5 25 (.int .i64 x) Zq.drew ?_ (hy:=fun wq hS=>by have hq:=XX (F6.below hS F6.lt) HX.out;go_simp);refine Zo 6 fun K hK=>?_;go_simp;refine (of_out r.g HOK.out x hin _).mono ?_;rintro e w7 ⟨rfl,hb⟩;have HS8:=Zh (Jk Zq.drew hb);clear hb;refine hK _ _ HS8.out (nm ?_);clear hK K;refine th 7 19 (.tuple #[.int .i64 0,.int .i64 0,.bool false]) HS8.out ?_;refine th 8 27 (.int .i64 0) HS8.out ?_;refine th 9 28 (.int .i64 0) HS8.out ?_;refine th 10 29 (.bool false) HS8.out ?_;refine th 11 5 (.int .i64 0) HS8.out ?_;refine th 12 6 (.int .i64 0) HS8.out ?_;refine th 13 7 (.bool false) HS8.out ?_;refine Zd ?_;have hb:=HS8.out;have F9:=Zh (F5.trans (hb.mono F5.size));have F10:=Zh (F6.below hb F6.lt);clear F5 F6;clear hb
 go_wp2_with fail
 refine (Qf 11 _ _ rfl).mono ?_;rintro e w9 ⟨v,rfl,hc,hb⟩;obtain⟨T,d,rfl⟩:=hc.shape;have HB9:=Zh (F9.trans (hb.mono F9.size));have HC9:=Zh hc;clear hc hb
 go_wp2_with fail
 go_ret;exact⟨T,d,_,rfl,HC9.out,HB9.out⟩
theorem Jb1(r:Rg)(hw:r.Wf)(hg:r.g.Ok)(k:Nat)(hk:k<8)(x:Int)(hx:r.rs[k]? = some x)(h:QQ r.g k x=true)(w:World):Calls Tryz.prog 105 #[.agg r.cells.toArray,.int .i64 k] w fun e w'=>e=.returned .nilIface∧Below w.heap.size w w':=by
 simp only [QQ,Bool.or_eq_true,Bool.and_eq_true,decide_eq_true_eq] at h
 by_cases h0:x=0
 · exact J6m r hw hg k hk x hx h0 w
 · have h1:=h.resolve_left h0;exact Jeg r hw hg k hk x hx h0 (by omega) ⟨h1.2.1,h1.2.2⟩ w
theorem Jeh(r:Rg)(hw:r.Wf)(hg:r.g.Ok)(k:Nat)(hk:k<8)(x:Int)(hx:r.rs[k]? = some x)(h:QQ r.g k x=false)(w:World):Calls Tryz.prog 105 #[.agg r.cells.toArray,.int .i64 k] w fun e w'=>∃T d t,e=.returned (.iface T d)∧Chain w' 11 [t] (.iface T d)∧Below w.heap.size w w':=by
 simp only [QQ,Bool.or_eq_false_iff,Bool.and_eq_false_iff,decide_eq_false_iff_not] at h;obtain⟨h0,h1⟩:=h
 by_cases hm:r.g.maps≤(k:Int)
 · exact J6n r hw hg k hk x hx h0 hm w
 · refine Jb0 r hw hg k hk x hx h0 hm (fun hin=>?_) w;rcases h1 with h1|h1|h1
   · omega
   · exact h1 hin.1
   · exact h1 hin.2
def Jht(ok:Bool)(e:Ending)(w':World):Prop:=(ok=true∧e=.returned .nilIface)∨(ok=false∧∃T d t ts,e=.returned (.iface T d)∧Chain w' 11 (t::ts) (.iface T d))
theorem yr(r:Rg)(hw:r.Wf)(hg:¬r.g.Ok)(w:World):Calls Tryz.prog 69 #[.agg r.cells.toArray] w fun e w'=>∃T d t ts,e=.returned (.iface T d)∧Chain w' 11 (t::ts) (.iface T d)∧Below w.heap.size w w':=by
 have HWF:=Zh hw;have HBL:Hid (Below w.heap.size w w):=Zh Zq;clear hw;have HOK:=Zh hg;clear hg;go_enter Tryz.func69,Tryz.ntmps69;go_upto_region 0 with fail;refine Zl ?_;refine JV rfl rfl ?_;intro w1 hA hb hl;refine nm ?_;clear hl;have HG2:Hid (w.heap.size≤w.heap.size):=Zh HBL.size;have F3:=Zh (HBL.trans (hb.mono HBL.size));clear HBL;have F4:Hid (Blk w1 w.heap.size r.cells):=Zh hA;clear hA hb;refine tk (Value.nilIface) ?_;refine Zn ?_;have c1:=F4.cell (i:=1) (v:=.int .i64 r.p) rfl;have c2:=F4.cell (i:=2) (v:=.int .i64 r.s) rfl;have c3:=F4.cell (i:=3) (v:=.int .i64 r.l) rfl;have c4:=F4.cell (i:=4) (v:=.int .i64 r.f) rfl;have c5:=F4.cell (i:=5) (v:=.int .i64 r.seg) rfl;have c6:=F4.cell (i:=6) (v:=.int .i64 r.off) rfl
 go_wp2_with fail
 refine (ZG r.g HOK.out _).mono ?_;rintro e w2 ⟨rfl,hb⟩;clear c1 c2 c3 c4 c5 c6;have F5:=Zh (F3.trans (hb.mono F3.size));have F6:=Zh (F4.below hb F4.lt);clear F3 F4;clear hb;have c1:=F6.cell (i:=1) (v:=.int .i64 r.p) rfl;have c2:=F6.cell (i:=2) (v:=.int .i64 r.s) rfl;have c3:=F6.cell (i:=3) (v:=.int .i64 r.l) rfl;have c4:=F6.cell (i:=4) (v:=.int .i64 r.f) rfl;have c5:=F6.cell (i:=5) (v:=.int .i64 r.seg) rfl;have c6:=F6.cell (i:=6) (v:=.int .i64 r.off) rfl
 go_wp2_with fail
 refine (Qf 11 _ _ rfl).mono ?_;rintro e w9 ⟨v,rfl,hc,hb⟩;obtain⟨T,d,rfl⟩:=hc.shape;have HB9:=Zh (F5.trans (hb.mono F5.size));have HC9:=Zh hc;clear hc hb
 go_wp2_with fail
 go_ret;exact⟨T,d,_,_,rfl,HC9.out,HB9.out⟩
theorem Xq{n a b:Int}{v:Bool}(h:within n a b=v)(w:World):Calls Tryz.prog 104 #[.int .i64 n,.int .i64 a,.int .i64 b] w fun e w'=>e=.returned (.bool v)∧w=w':=h ▸ zY n a b w
theorem J01(r:Rg)(hw:r.Wf)(hg:r.g.Ok)(hseg:¬(0≤r.seg∧r.seg≤r.s-1))(w:World):Calls Tryz.prog 69 #[.agg r.cells.toArray] w fun e w'=>∃T d t ts,e=.returned (.iface T d)∧Chain w' 11 (t::ts) (.iface T d)∧Below w.heap.size w w':=by
 have HWF:=Zh hw;have HBL:Hid (Below w.heap.size w w):=Zh Zq;clear hw;have HOK:=Zh hg;obtain⟨_,⟨hs1,hs2⟩,⟨hl1,hl2⟩,_⟩:=hg;simp only at hs1 hs2 hl1 hl2;have HS:Hid (within r.seg 0 (r.s-1)=false):=Zh (by simp only [within,Bool.and_eq_false_iff,decide_eq_false_iff_not];omega);clear hseg;go_enter Tryz.func69,Tryz.ntmps69;go_upto_region 0 with fail;refine Zl ?_;refine JV rfl rfl ?_;intro w1 hA hb hl;refine nm ?_;clear hl;have HG2:Hid (w.heap.size≤w.heap.size):=Zh HBL.size;have F3:=Zh (HBL.trans (hb.mono HBL.size));clear HBL;have F4:Hid (Blk w1 w.heap.size r.cells):=Zh hA;clear hA hb;refine tk (Value.nilIface) ?_;refine Zn ?_;have c1:=F4.cell (i:=1) (v:=.int .i64 r.p) rfl;have c2:=F4.cell (i:=2) (v:=.int .i64 r.s) rfl;have c3:=F4.cell (i:=3) (v:=.int .i64 r.l) rfl;have c4:=F4.cell (i:=4) (v:=.int .i64 r.f) rfl;have c5:=F4.cell (i:=5) (v:=.int .i64 r.seg) rfl;have c6:=F4.cell (i:=6) (v:=.int .i64 r.off) rfl
 go_wp2_with fail
 refine (JX r.g HOK.out _).mono ?_;rintro e w2 ⟨rfl,hb⟩;clear c1 c2 c3 c4 c5 c6;have F5:=Zh (F3.trans (hb.mono F3.size));have F6:=Zh (F4.below hb F4.lt);clear F3 F4;clear hb;have c1:=F6.cell (i:=1) (v:=.int .i64 r.p) rfl;have c2:=F6.cell (i:=2) (v:=.int .i64 r.s) rfl;have c3:=F6.cell (i:=3) (v:=.int .i64 r.l) rfl;have c4:=F6.cell (i:=4) (v:=.int .i64 r.f) rfl;have c5:=F6.cell (i:=5) (v:=.int .i64 r.seg) rfl;have c6:=F6.cell (i:=6) (v:=.int .i64 r.off) rfl
 go_wp2_with fail
 refine (Xq HS.out _).mono ?_;rintro e w3 ⟨rfl,rfl⟩
 go_wp2_with fail
 refine (Qf 11 _ _ rfl).mono ?_;rintro e w9 ⟨v,rfl,hc,hb⟩;obtain⟨T,d,rfl⟩:=hc.shape;have HB9:=Zh (F5.trans (hb.mono F5.size));have HC9:=Zh hc;clear hc hb
 go_wp2_with fail
 go_ret;exact⟨T,d,_,_,rfl,HC9.out,HB9.out⟩
theorem J02(r:Rg)(hw:r.Wf)(hg:r.g.Ok)(hseg:(0≤r.seg∧r.seg≤r.s-1))(hoff:¬(0≤r.off∧r.off≤r.l))(w:World):Calls Tryz.prog 69 #[.agg r.cells.toArray] w fun e w'=>∃T d t ts,e=.returned (.iface T d)∧Chain w' 11 (t::ts) (.iface T d)∧Below w.heap.size w w':=by
 have HWF:=Zh hw;have HBL:Hid (Below w.heap.size w w):=Zh Zq;clear hw;have HOK:=Zh hg;obtain⟨_,⟨hs1,hs2⟩,⟨hl1,hl2⟩,_⟩:=hg;simp only at hs1 hs2 hl1 hl2;have HS:Hid (within r.seg 0 (r.s-1)=true):=Zh (by simp only [within,Bool.and_eq_true,decide_eq_true_eq];omega);clear hseg;have HO:Hid (within r.off 0 r.l=false):=Zh (by simp only [within,Bool.and_eq_false_iff,decide_eq_false_iff_not];omega);clear hoff;go_enter Tryz.func69,Tryz.ntmps69;go_upto_region 0 with fail;refine Zl ?_;refine JV rfl rfl ?_;intro w1 hA hb hl;refine nm ?_;clear hl;have HG2:Hid (w.heap.size≤w.heap.size):=Zh HBL.size;have F3:=Zh (HBL.trans (hb.mono HBL.size));clear HBL;have F4:Hid (Blk w1 w.heap.size r.cells):=Zh hA;clear hA hb;refine tk (Value.nilIface) ?_;refine Zn ?_;have c1:=F4.cell (i:=1) (v:=.int .i64 r.p) rfl;have c2:=F4.cell (i:=2) (v:=.int .i64 r.s) rfl;have c3:=F4.cell (i:=3) (v:=.int .i64 r.l) rfl;have c4:=F4.cell (i:=4) (v:=.int .i64 r.f) rfl;have c5:=F4.cell (i:=5) (v:=.int .i64 r.seg) rfl;have c6:=F4.cell (i:=6) (v:=.int .i64 r.off) rfl
 go_wp2_with fail
 refine (JX r.g HOK.out _).mono ?_;rintro e w2 ⟨rfl,hb⟩;clear c1 c2 c3 c4 c5 c6;have F5:=Zh (F3.trans (hb.mono F3.size));have F6:=Zh (F4.below hb F4.lt);clear F3 F4;clear hb;have c1:=F6.cell (i:=1) (v:=.int .i64 r.p) rfl;have c2:=F6.cell (i:=2) (v:=.int .i64 r.s) rfl;have c3:=F6.cell (i:=3) (v:=.int .i64 r.l) rfl;have c4:=F6.cell (i:=4) (v:=.int .i64 r.f) rfl;have c5:=F6.cell (i:=5) (v:=.int .i64 r.seg) rfl;have c6:=F6.cell (i:=6) (v:=.int .i64 r.off) rfl
 go_wp2_with fail
 refine (Xq HS.out _).mono ?_;rintro e w3 ⟨rfl,rfl⟩
 go_wp2_with fail
 refine (Xq HO.out _).mono ?_;rintro e w4 ⟨rfl,rfl⟩
 go_wp2_with fail
 refine (Qf 11 _ _ rfl).mono ?_;rintro e w9 ⟨v,rfl,hc,hb⟩;obtain⟨T,d,rfl⟩:=hc.shape;have HB9:=Zh (F5.trans (hb.mono F5.size));have HC9:=Zh hc;clear hc hb
 go_wp2_with fail
 go_ret;exact⟨T,d,_,_,rfl,HC9.out,HB9.out⟩
theorem qU(r:Rg)(hw:r.Wf)(hg:r.g.Ok)(hseg:(0≤r.seg∧r.seg≤r.s-1))(hoff:(0≤r.off∧r.off≤r.l))(w:World):Calls Tryz.prog 69 #[.agg r.cells.toArray] w fun e w'=>Jht (Qk r.g r.rs) e w'∧Below w.heap.size w w':=by
 have HWF:=Zh hw;have HBL:Hid (Below w.heap.size w w):=Zh Zq;clear hw;have HOK:=Zh hg;obtain⟨_,⟨hs1,hs2⟩,⟨hl1,hl2⟩,_⟩:=hg;simp only at hs1 hs2 hl1 hl2;have HS:Hid (within r.seg 0 (r.s-1)=true):=Zh (by simp only [within,Bool.and_eq_true,decide_eq_true_eq];omega);clear hseg;have HO:Hid (within r.off 0 r.l=true):=Zh (by simp only [within,Bool.and_eq_true,decide_eq_true_eq];omega);clear hoff;go_enter Tryz.func69,Tryz.ntmps69;go_upto_region 0 with fail;refine Zl ?_;refine JV rfl rfl ?_;intro w1 hA hb hl;refine nm ?_;clear hl;have HG2:Hid (w.heap.size≤w.heap.size):=Zh HBL.size;have F3:=Zh (HBL.trans (hb.mono HBL.size));clear HBL;have F4:Hid (Blk w1 w.heap.size r.cells):=Zh hA;clear hA hb;refine tk (Value.nilIface) ?_;refine Zn ?_;have c1:=F4.cell (i:=1) (v:=.int .i64 r.p) rfl;have c2:=F4.cell (i:=2) (v:=.int .i64 r.s) rfl;have c3:=F4.cell (i:=3) (v:=.int .i64 r.l) rfl;have c4:=F4.cell (i:=4) (v:=.int .i64 r.f) rfl;have c5:=F4.cell (i:=5) (v:=.int .i64 r.seg) rfl;have c6:=F4.cell (i:=6) (v:=.int .i64 r.off) rfl
 go_wp2_with fail
 refine (JX r.g HOK.out _).mono ?_;rintro e w2 ⟨rfl,hb⟩;clear c1 c2 c3 c4 c5 c6;have F5:=Zh (F3.trans (hb.mono F3.size));have F6:=Zh (F4.below hb F4.lt);clear F3 F4;clear hb;have c1:=F6.cell (i:=1) (v:=.int .i64 r.p) rfl;have c2:=F6.cell (i:=2) (v:=.int .i64 r.s) rfl;have c3:=F6.cell (i:=3) (v:=.int .i64 r.l) rfl;have c4:=F6.cell (i:=4) (v:=.int .i64 r.f) rfl;have c5:=F6.cell (i:=5) (v:=.int .i64 r.seg) rfl;have c6:=F6.cell (i:=6) (v:=.int .i64 r.off) rfl
 go_wp2_with fail
 refine (Xq HS.out _).mono ?_;rintro e w3 ⟨rfl,rfl⟩
 go_wp2_with fail
 refine (Xq HO.out _).mono ?_;rintro e w4 ⟨rfl,rfl⟩
 go_wp2_with fail
 go_loopg [30] 8 (fun q i wr=>∃k:Nat,8-k≤q∧k≤8∧i=.int .i64 k∧(∀j,j<k→QQ r.g j (r.rs.getD j 0)=true)∧Blk wr w.heap.size r.cells∧Below w.heap.size w wr)
 case atStart=>exact⟨0,by omega,by omega,rfl,fun j hj=>by omega,F6.out,F5.out⟩
 case round =>
  obtain⟨k,hq,hk,rfl,hall,hblk,hbel⟩:=hrel;have HA:=Zh hall;have FB:=Zh hblk;have FL:=Zh hbel;clear c1 c2 c3 c4 c5 c6 F6 F5 hall hblk hbel
  by_cases h8:k<8
  · obtain⟨x,hx⟩:∃x,r.rs[k]? = some x:=⟨_,List.getElem?_eq_getElem (by rw [HWF.len];exact h8)⟩
    have HX:=Zh hx;clear hx;cases hr:QQ r.g k x
    · have HR:=Zh hr;clear hr;go_upto_region 10 with fail;refine Zl ?_;refine yq (cs:=r.cells.toArray) (Blk.all FB.out rfl) (by rw [List.size_toArray];exact HWF.cells) rfl rfl ?_;refine nm ?_;refine tk (.int .i64 k) ?_;refine J0 rfl fun K hK=>?_;go_simp;refine ((Jeh r HWF.out HOK.out k h8 x HX.out HR.out _).mono fun e w' h=>(show ∃T d t ts,e=.returned (.iface T d)∧Chain w' 11 (t::ts) (.iface T d)∧Below _ _ w' from let ⟨T,d,t,h1,h2,h3⟩:=h;⟨T,d,t,[],h1,h2,h3⟩)).mono ?_;rintro e w101 ⟨Tw101,dw101,tw101,tsw101,rfl,hc,hb⟩;have F102:=Zh (FB.below hb FB.lt);have F103:=Zh (FL.trans (hb.mono FL.size));clear FB FL;have F104:=Zh hc;clear hb hc;refine hK _ _ (nm ?_);clear hK K;refine tk (.iface Tw101 dw101) ?_;go_wp2_with fail
      refine (itoa_any k h8 _).mono ?_;rintro e w8 ⟨s,rfl,hs,rfl⟩
      go_wp2_with fail
      refine (XT _ 11 _ _ _ _ F104.out).mono ?_;rintro e w9 ⟨v,rfl,hc,hb⟩;obtain⟨T,d,rfl⟩:=hc.shape;have HB9:=Zh (F103.trans (hb.mono F103.size));have HC9:=Zh hc;clear hc hb
      go_wp2_with fail
      go_ret;exact⟨.inr ⟨Jav h8 (by rw [ym HX.out];exact HR.out),T,d,_,_,rfl,HC9.out⟩,HB9.out⟩
    · have HR:=Zh hr;clear hr;go_upto_region 10 with fail;refine Zl ?_;refine yq (cs:=r.cells.toArray) (Blk.all FB.out rfl) (by rw [List.size_toArray];exact HWF.cells) rfl rfl ?_;refine nm ?_;refine tk (.int .i64 k) ?_;refine J0 rfl fun K hK=>?_;go_simp;refine (Jb1 r HWF.out HOK.out k h8 x HX.out HR.out _).mono ?_;rintro e w101 ⟨rfl,hb⟩;have F102:=Zh (FB.below hb FB.lt);have F103:=Zh (FL.trans (hb.mono FL.size));clear FB FL;clear hb;refine hK _ _ (nm ?_);clear hK K;refine tk (Value.nilIface) ?_;go_wp2_with fail
      go_roundg (8-(k+1))
      case measure=>omega
      case rel=>exact⟨k+1,by omega,by omega,by go_num,fun j hj=>by
       rcases (show j<k∨j=k by omega) with h|rfl
       · exact HA.out j h
       · rw [ym HX.out];exact HR.out,F102.out,F103.out⟩
  · obtain rfl:k=8:=by omega
    go_wp2_with fail
    go_ret;exact⟨.inl ⟨J6l HA.out,rfl⟩,FL.out⟩
theorem problem_any(r:Rg)(hw:r.Wf)(w:World):Calls Tryz.prog 69 #[.agg r.cells.toArray] w fun e w'=>Jht r.good e w'∧Below w.heap.size w w':=by
 have key:∀{v:Bool},r.good=false→(Calls Tryz.prog 69 #[.agg r.cells.toArray] w fun e w'=>∃T d t ts,e=.returned (.iface T d)∧Chain w' 11 (t::ts) (.iface T d)∧Below w.heap.size w w')→Calls Tryz.prog 69 #[.agg r.cells.toArray] w fun e w'=>Jht r.good e w'∧Below w.heap.size w w':=fun {_} hb h=>h.mono fun e w' ⟨T,d,t,ts,h1,h2,h3⟩=>⟨.inr ⟨hb,T,d,t,ts,h1,h2⟩,h3⟩
 by_cases hg:r.g.Ok
 · by_cases hseg:(0≤r.seg∧r.seg≤r.s-1)
   · by_cases hoff:(0≤r.off∧r.off≤r.l)
     · have:r.good=Qk r.g r.rs:=by simp [Rg.good,hg,hseg,hoff]
       rw [this];exact qU r hw hg hseg hoff w
     · exact key (v:=true) (by unfold Rg.good;rw [decide_eq_false (p:=(0≤r.off∧r.off≤r.l)) hoff];simp) (J02 r hw hg hseg hoff w)
   · exact key (v:=true) (by unfold Rg.good;rw [decide_eq_false (p:=(0≤r.seg∧r.seg≤r.s-1)) hseg];simp) (J01 r hw hg hseg w)
 · exact key (v:=true) (by unfold Rg.good;rw [decide_eq_false hg];simp) (yr r hw hg w)
theorem jU{r:Rg}(h:r.good=true)(hw:r.Wf)(w:World):Calls Tryz.prog 69 #[.agg r.cells.toArray] w fun e w'=>e=.returned .nilIface∧Below w.heap.size w w' :=
 (problem_any r hw w).mono fun e w' ⟨h1,h2⟩=>by
  rcases h1 with ⟨_,h1⟩|⟨h1,_⟩
  · exact⟨h1,h2⟩
  · rw [h] at h1;cases h1
theorem J2k{r:Rg}(h:r.good=false)(hw:r.Wf)(w:World):Calls Tryz.prog 69 #[.agg r.cells.toArray] w fun e w'=>∃T d t ts,e=.returned (.iface T d)∧Chain w' 11 (t::ts) (.iface T d)∧Below w.heap.size w w' :=
 (problem_any r hw w).mono fun e w' ⟨h1,h2⟩=>by
  rcases h1 with ⟨h1,_⟩|⟨_,T,d,t,ts,h3,h4⟩
  · rw [h] at h1;cases h1
  · exact⟨T,d,t,ts,h3,h4,h2⟩
theorem Jei(L:List Int)(i:Nat)(x:Int):(u8s L).set i (.int .u8 x)=u8s (L.set i x):=by simp [List.map_set]
theorem J6o{H t:List Int}{o:Nat}(x:Int)(h:H.length=o):(H++(zeros (n+1)++t)).set o x=(H++[x])++(zeros n++t):=by
 subst h;rw [List.set_append_right _ _ Zy,Nat.sub_self];simp [zeros,List.replicate_succ]
theorem YT{H t bs:List Int}{o:Nat}(h:H.length=o)(hn:bs.length≤n):JD (H++(zeros n++t)) o bs=(H++bs)++(zeros (n-bs.length)++t):=by
 rw [Z6 h,List.append_assoc,List.drop_append_of_le_length (by rw [J1];exact hn),Z7]
def Rg.hh(r:Rg)(n:Int):List Int:=82::n::le 4 r.gen
theorem QR(r:Rg)(n:Int):(r.hh n).length=6:=by simp [Rg.hh,J7]
def Rg.la(r:Rg)(k:Nat):List Int:=if k=0 then zeros 128 else if k=1 then r.hh 0++(zeros 58++zeros 64) else r.hh 0++(zeros 58++(r.hh 1++zeros 58))
def Rg.lb(r:Rg)(k:Nat):List Int:=(r.hh 0++r.six.take k)++(zeros (58-k)++(r.hh 1++zeros 58))
def Rg.lc(r:Rg):List Int:=r.b0++(zeros 48++(r.hh 1++zeros 58))
def Rg.ld(r:Rg)(k:Nat):List Int:=(r.b0++(zeros 48++(r.hh 1++XW (r.rs.take k))))++(zeros (58-2*k)++[])
theorem Jhu(r:Rg):JD (((r.la 0).set 0 82).set 1 0) 2 (le 4 r.gen)=r.la 1:=by
 have e:((r.la 0).set 0 82).set 1 0=[82,0]++(zeros 126++[]):=rfl;rw [e,YT (n:=126) (o:=2) (H:=[82,0]) rfl (by simp [J7])];simp only [J7];rfl
theorem Jhv(r:Rg):JD (((r.la 1).set 64 82).set 65 1) 66 (le 4 r.gen)=r.la 2:=by
 have e:((r.la 1).set 64 82).set 65 1=(r.hh 0++(zeros 58++[82,1]))++(zeros 62++[]):=rfl;rw [e,YT (by simp [QR,J1]) (by simp [J7])];simp only [J7];simp [Rg.la,Rg.hh,List.append_assoc]
theorem Jej(r:Rg):r.la 2=r.lb 0:=by simp [Rg.la,Rg.lb]
theorem Jek{r:Rg}{x:Int}(hk:k<6)(h:r.six[k]? = some x):(r.lb k).set (6+k) x=r.lb (k+1):=by
 unfold Rg.lb;rw [show 58-k=(57-k)+1 by omega,J6o x (by simp [QR,Rg.six];omega),List.take_add_one,h,show 58-(k+1)=57-k by omega];simp [List.append_assoc]
theorem Jjd(r:Rg):JD (r.lb 6) 12 (le 4 r.seq)=r.lc:=by
 have e:r.lb 6=(r.hh 0++r.six)++(zeros 52++(r.hh 1++zeros 58)):=rfl;rw [e,YT (by simp [QR,Rg.six]) (by simp [J7])];simp only [J7];simp [Rg.lc,Rg.b0,Rg.hh,List.append_assoc]
theorem Jel(r:Rg):r.lc=r.ld 0:=by simp [Rg.lc,Rg.ld,XW,List.append_assoc]
theorem xx(r:Rg):r.b0.length=16:=by simp [Rg.b0,Rg.six,J7]
theorem Jem{r:Rg}{x:Int}(hk:k<8)(hl:r.rs.length=8)(h:r.rs[k]? = some x):JD (r.ld k) (70+2*k) (le 2 x)=r.ld (k+1):=by
 unfold Rg.ld;rw [YT (by simp [xx,J1,QR,Y9,hl];omega) (by rw [J7];omega),J2i h,J7,show 58-2*k-2=58-2*(k+1) by omega];simp [List.append_assoc]
theorem Jb2{r:Rg}(hl:r.rs.length=8):r.ld 8=r.enc:=by
 unfold Rg.ld Rg.enc Rg.s0 Rg.s1 Rg.b1;rw [List.take_of_length_le (by omega)];simp [Rg.hh,List.append_assoc]
theorem Jb3{r:Rg}{x:Int}(h:r.six[k]? = some x):r.cells[1+k]? = some (.int .i64 x):=by
 have hk:k<6:=(Zg h).1;rcases (show k=0∨k=1∨k=2∨k=3∨k=4∨k=5 by omega) with rfl|rfl|rfl|rfl|rfl|rfl <;> (cases h;rfl)
theorem Jen(r:Rg)(k:Nat)(hl:r.rs.length=8)(hk:k≤8):(r.ld k).length=128:=by
 unfold Rg.ld;simp [xx,J1,QR,Y9,hl];omega
theorem Jb4(r:Rg)(k:Nat)(hk:k≤6):(r.lb k).length=128:=by
 unfold Rg.lb;simp [J1,QR,Rg.six];omega
theorem jC(r:Rg)(k:Nat):(r.la k).length=128:=by
 unfold Rg.la;split
 · exact J1 _
 · split <;> simp [J1,QR]
theorem _root_.Go.Proofs.YtdbfmikeaoaebaaGreatDoor.Blk.u8{g:Nat}{L:List Int}(h:Blk w g (u8s L))(hi:i<L.length):w.cell? ⟨g,i,none⟩=some (.int .u8 (L.getD i 0)):=h.cell (by
 rw [List.getElem?_map,List.getD_eq_getElem?_getD,List.getElem?_eq_getElem hi]
 rfl)
theorem _root_.Go.Proofs.YtdbfmikeaoaebaaGreatDoor.Blk.setU8{g:Nat}{L:List Int}(h:Blk w g (u8s L))(i:Nat)(x:Int):Blk (w.setCell ⟨g,i,none⟩ (.int .u8 x)) g (u8s (L.set i x)):=by
 have:=h.set i (.int .u8 x)
 rwa [Jei] at this
structure LS (W w:World) (a b c:Nat) (r:Rg) (L:List Int):Prop where
 blk:Blk w a r.cells
 res:Blk w b (u8s (zeros 128))
 sec:Blk w c (u8s L)
 bel:Below W.heap.size W w
 ab:a≠b
 ac:a≠c
 bc:b≠c
 lb:W.heap.size≤b
 lc:W.heap.size≤c
theorem LS.below{a:Nat}{r:Rg}{L:List Int}(h:LS W w a b c r L)(hb:Below w.heap.size w w'):LS W w' a b c r L :=
 ⟨h.blk.below hb h.blk.lt,h.res.below hb h.res.lt,h.sec.below hb h.sec.lt,h.bel.trans (hb.mono h.bel.size),h.ab,h.ac,h.bc,h.lb,h.lc⟩
theorem LS.drew{a:Nat}{r:Rg}{L:List Int}(h:LS W w a b c r L):LS W w.drew a b c r L:=h.below Zq.drew
theorem LS.put{a:Nat}{r:Rg}{L M:List Int}(h:LS W w a b c r L)(ho:Only (fun k=>k=c) w w')(hs:Blk w' c (u8s M)):LS W w' a b c r M :=
 ⟨h.blk.only ho h.ac,h.res.only ho h.bc,hs,h.bel.trans (ho.below h.bel.size fun k hk=>by rw [hk];exact h.lc),h.ab,h.ac,h.bc,h.lb,h.lc⟩
theorem LS.set{a:Nat}{r:Rg}{L:List Int}(h:LS W w a b c r L)(i:Nat)(x:Int):LS W (w.setCell ⟨c,i,none⟩ (.int .u8 x)) a b c r (L.set i x) :=
 h.put ((Only.refl (fun k=>k=c) w).setCell (p:=⟨c,i,none⟩) (.inl rfl) _) (h.sec.setU8 i x)
theorem yt(w:World)(g o cap:Nat)(L M:List Int)(hb:Blk w g (u8s L))(ho:o+4≤L.length)(v:Int)(hv:U32 v)(hm:JD L o (le 4 v)=M) :
 Calls Tryz.prog 130 #[.slice (some ⟨g,o,none⟩) 4 cap,.int .u32 v] w fun e w'=>e=.returned (.tuple #[])∧Blk w' g (u8s M)∧Only (fun k=>k=g) w w':=by
 have:=put4_any w g o cap (u8s L) hb (by simpa using ho) v hv
 rwa [Qt,hm] at this
theorem Jeo(w:World)(g o cap:Nat)(L M:List Int)(hb:Blk w g (u8s L))(ho:o+2≤L.length)(v:Int)(hv:0≤v∧v<65536)(hm:JD L o (le 2 v)=M) :
 Calls Tryz.prog 130 #[.slice (some ⟨g,o,none⟩) 2 cap,.int .u32 v] w fun e w'=>e=.returned (.tuple #[])∧Blk w' g (u8s M)∧Only (fun k=>k=g) w w':=by
 have:=put2_any w g o cap (u8s L) hb (by simpa using ho) v ⟨hv.1,by omega⟩
 rwa [Qt,hm] at this
theorem Jep(r:Rg)(hw:r.Wf)(hg:r.good=true)(w:World):Calls Tryz.prog 106 #[.agg r.cells.toArray] w (Zr w (.agg (u8s r.enc).toArray)):=by
 have HWF:=Zh hw;have HGD:=Zh hg;have HZ128:=Zh (J1 128);have HBL:Hid (Below w.heap.size w w):=Zh Zq;clear hw hg;go_enter Tryz.func106,Tryz.ntmps106;go_upto_region 0 with fail;refine Zl ?_;refine JV rfl rfl ?_;intro w1 hA hb hl;refine nm ?_;clear hl;have HG2:Hid (w.heap.size≤w.heap.size):=Zh HBL.size;have F3:=Zh (HBL.trans (hb.mono HBL.size));clear HBL;have F4:Hid (Blk w1 w.heap.size r.cells):=Zh hA;clear hA hb;refine J4 Qb rfl ?_;intro w5 hA hb hl;refine nm ?_;clear hl;have HN6:=Zh (Nat.ne_of_lt F4.lt);have HG7:Hid (w.heap.size≤w1.heap.size):=Zh F3.size;have F8:=Zh (F3.trans (hb.mono F3.size));have F9:=Zh (F4.below hb F4.lt);clear F3 F4;have F10:Hid (Blk w5 w1.heap.size (u8s (zeros 128))):=Zh hA;clear hA hb;generalize w1.heap.size=g11 at *;clear w1;go_upto_region 1 with fail;refine Zl ?_;refine J4 Qb rfl ?_;intro w12 hA hb hl;refine nm ?_;clear hl;have HN13:=Zh (Nat.ne_of_lt F9.lt);have HN14:=Zh (Nat.ne_of_lt F10.lt);have HG15:Hid (w.heap.size≤w5.heap.size):=Zh F8.size;have F16:=Zh (F8.trans (hb.mono F8.size));have F17:=Zh (F9.below hb F9.lt);have F18:=Zh (F10.below hb F10.lt);clear F8 F9 F10;have F19:Hid (Blk w12 w5.heap.size (u8s (zeros 128))):=Zh hA;clear hA hb;generalize w5.heap.size=g20 at *;clear w5;refine Zn ?_;have HL:Hid (LS w w12 w.heap.size g11 g20 r (r.la 0)):=Zh ⟨F17.out,F18.out,F19.out,F16.out,HN6.out,HN13.out,HN14.out,HG7.out,HG15.out⟩;clear F17 F18 F19 F16 HN6 HN13 HN14 HG2 HG7 HG15
 go_wp2_with fail
 go_loopg [9] 2 (fun q i wr=>∃k:Nat,2-k≤q∧k≤2∧i=.int .i64 k∧LS w wr w.heap.size g11 g20 r (r.la k))
 case atStart=>exact⟨0,by omega,by omega,rfl,HL.out⟩
 case round =>
  obtain⟨k,hq,hk,rfl,hls⟩:=hrel;have HM:=Zh hls;clear HL hls;rcases (show k=0∨k=1∨k=2 by omega) with rfl|rfl|rfl
  · have d0:=HM.sec.u8 (i:=0) (by rw [jC];decide);have d1:=HM.sec.u8 (i:=1) (by rw [jC];decide);have f0:=HM.sec.frozen 0;have f1:=HM.sec.frozen 1;go_upto_region 5 with fail
    go_region
    have HM5:=Zh ((HM.set 0 82).set 1 0).drew;clear HM d0 d1 f0 f1;generalize ((wr.setCell ⟨g20,0,none⟩ (.int .u8 82)).setCell ⟨g20,1,none⟩ (.int .u8 0)).drew=w5 at *;clear wr;go_upto_region 6 with fail;refine J9 (fun wq=>Blk wq w.heap.size r.cells) (by kernel_rfl) ?_;refine th 0 20 (.int .i64 (((0:Nat):Int))) HM5.drew.blk ?_;refine th 1 21 (.pointer (some ⟨g20,0,none⟩)) HM5.drew.blk ?_;refine th 2 22 (.slice (some ⟨g20,2,none⟩) 4 62) HM5.drew.blk ?_;refine th 3 23 (.pointer (some ⟨w.heap.size,0,none⟩)) HM5.drew.blk ?_;refine th 4 24 (.int .u32 r.gen) HM5.drew.blk ?_ (hy:=fun wq hS=>by have hq:=hS.cell (i:=0) (v:=.int .u32 r.gen) rfl;go_simp);refine Zo 5 fun K hK=>?_;go_simp;refine (yt _ g20 2 62 _ _ HM5.drew.sec (by rw [List.length_set,List.length_set,jC];decide) r.gen HWF.gen (Jhu r)).mono ?_;rintro e w6 ⟨rfl,hs,ho⟩;have HM6:=Zh (HM5.drew.put ho hs);clear hs ho;refine hK _ _ HM6.blk (nm ?_);clear hK K;refine Zd ?_
    go_wp2_with fail
    go_roundg (2-(0+1))
    case measure=>omega
    case rel=>exact⟨1,by omega,by omega,by go_num,HM6.out⟩
  · have d0:=HM.sec.u8 (i:=64) (by rw [jC];decide);have d1:=HM.sec.u8 (i:=65) (by rw [jC];decide);have f0:=HM.sec.frozen 64;have f1:=HM.sec.frozen 65;go_upto_region 5 with fail
    go_region
    have HM5:=Zh ((HM.set 64 82).set 65 1).drew;clear HM d0 d1 f0 f1;generalize ((wr.setCell ⟨g20,64,none⟩ (.int .u8 82)).setCell ⟨g20,65,none⟩ (.int .u8 1)).drew=w5 at *;clear wr;go_upto_region 6 with fail;refine J9 (fun wq=>Blk wq w.heap.size r.cells) (by kernel_rfl) ?_;refine th 0 20 (.int .i64 (((1:Nat):Int))) HM5.drew.blk ?_;refine th 1 21 (.pointer (some ⟨g20,64,none⟩)) HM5.drew.blk ?_;refine th 2 22 (.slice (some ⟨g20,66,none⟩) 4 62) HM5.drew.blk ?_;refine th 3 23 (.pointer (some ⟨w.heap.size,0,none⟩)) HM5.drew.blk ?_;refine th 4 24 (.int .u32 r.gen) HM5.drew.blk ?_ (hy:=fun wq hS=>by have hq:=hS.cell (i:=0) (v:=.int .u32 r.gen) rfl;go_simp);refine Zo 5 fun K hK=>?_;go_simp;refine (yt _ g20 66 62 _ _ HM5.drew.sec (by rw [List.length_set,List.length_set,jC];decide) r.gen HWF.gen (Jhv r)).mono ?_;rintro e w6 ⟨rfl,hs,ho⟩;have HM6:=Zh (HM5.drew.put ho hs);clear hs ho;refine hK _ _ HM6.blk (nm ?_);clear hK K;refine Zd ?_
    go_wp2_with fail
    go_roundg (2-(1+1))
    case measure=>omega
    case rel=>exact⟨2,by omega,by omega,by go_num,HM6.out⟩
  · go_wp2_with fail
    refine (J00 w.heap.size _).mono ?_;rintro e w7 ⟨rfl,hb⟩;have HN:=Zh (HM.below hb);rw [Jej] at HN;clear hb HM;clear wr
    go_wp2_with fail
    go_loopg [28] 6 (fun q i wr=>∃k:Nat,6-k≤q∧k≤6∧i=.int .i64 k∧LS w wr w.heap.size g11 g20 r (r.lb k))
    case atStart=>exact⟨0,by omega,by omega,rfl,HN.out⟩
    case round =>
     obtain⟨k,hq,hk,rfl,hls⟩:=hrel;have HM:=Zh hls;clear HN hls;clear w7
     by_cases h6:k<6
     · obtain⟨x,hx⟩:∃x,r.six[k]? = some x:=⟨_,List.getElem?_eq_getElem (by simpa [Rg.six] using h6)⟩
       have HX:=Zh hx;obtain⟨hx0,hx1⟩:=Jaw HGD.out x (List.mem_of_getElem? hx);clear hx;have hi:=zZ w.heap.size k h6;have d0:=HM.sec.u8 (i:=6+k) (by rw [Jb4 r k (by omega)];omega);have f0:=HM.sec.frozen (6+k);have c0:=HM.blk.cell (Jb3 HX.out)
       go_wp2_with fail
       go_roundg (6-(k+1))
       case measure=>omega
       case rel =>
        have hs:=HM.set (6+k) x;rw [Jek h6 HX.out] at hs;exact⟨k+1,by omega,by omega,by go_num,hs⟩
     · obtain rfl:k=6:=by omega
       go_upto_region 13 with fail;refine J9 (fun wq=>Blk wq w.heap.size r.cells) (by kernel_rfl) ?_;refine th 0 41 (.pointer (some ⟨g20,0,none⟩)) HM.drew.blk ?_;refine th 1 42 (.slice (some ⟨g20,12,none⟩) 4 52) HM.drew.blk ?_;refine th 2 43 (.pointer (some ⟨w.heap.size,7,none⟩)) HM.drew.blk ?_;refine th 3 44 (.int .u32 r.seq) HM.drew.blk ?_ (hy:=fun wq hS=>by have hq:=hS.cell (i:=7) (v:=.int .u32 r.seq) rfl;go_simp);refine Zo 4 fun K hK=>?_;go_simp;refine (yt _ g20 12 52 _ _ HM.drew.sec (by rw [Jb4 r 6 (by omega)];decide) r.seq HWF.seq (Jjd r)).mono ?_;rintro e w8 ⟨rfl,hs,ho⟩;have HN:=Zh (HM.drew.put ho hs);rw [Jel] at HN;clear hs ho;refine hK _ _ HN.blk ?_;clear hK K HM;clear wr;refine nm ?_;refine Zd ?_;go_upto_region 14 with fail;refine Zl ?_;refine tk (.pointer (some ⟨w.heap.size,8,none⟩)) ?_;refine XI (cs:=(Jq r.rs).toArray) (Rg.at25 HN.blk) (by rw [List.size_toArray,List.length_map,HWF.len]) rfl rfl ?_;refine nm ?_;refine tk (.int .i64 0) ?_;go_wp2_with fail
       go_loopg [48] 8 (fun q i wr=>∃k:Nat,8-k≤q∧k≤8∧i=.int .i64 k∧LS w wr w.heap.size g11 g20 r (r.ld k))
       case atStart=>exact⟨0,by omega,by omega,rfl,HN.out⟩
       case round =>
        obtain⟨k,hq,hk,rfl,hls⟩:=hrel;have HM:=Zh hls;clear HN hls;clear w8
        by_cases h8:k<8
        · obtain⟨x,hx⟩:∃x,r.rs[k]? = some x:=⟨_,List.getElem?_eq_getElem (by rw [HWF.len];exact h8)⟩
          have HX:=Zh hx;obtain⟨hx0,hx1⟩:=good_all HGD.out HWF.len x (List.mem_of_getElem? hx);clear hx;obtain⟨i3,hi3,hi3s⟩:=KV J3r;have hi:=fun w=>Yo (P:=Tryz.prog) w 54 3 8 _ .i64 i3 r.rs Tryz.underlying54 Tryz.underlying3 hi3 hi3s HWF.len k x HX.out;clear hi3 hi3s;have HRA:=Zh fun w=>qs w g20 k h8
          go_wp2_with fail
          refine (HRA.out _).mono ?_;rintro e w9 ⟨rfl,rfl⟩
          go_wp2_with fail
          refine (Jeo _ g20 (70+2*k) (58-2*k) _ _ HM.sec (by rw [Jen r k HWF.len (by omega)];omega) x ⟨hx0,hx1⟩ (Jem h8 HWF.len HX.out)).mono ?_;rintro e w9 ⟨rfl,hs,ho⟩;have HN:=Zh (HM.put ho hs);clear hs ho
          go_wp2_with fail
          go_roundg (8-(k+1))
          case measure=>omega
          case rel=>exact⟨k+1,by omega,by omega,by go_num,HN.out⟩
        · obtain rfl:k=8:=by omega
          rw [Jb2 HWF.len] at HM;have HE:=Zh (enc_length HWF.len);go_upto_region 19 with fail;refine Zl ?_;refine J4j (cs:=(u8s r.enc).toArray) (Blk.all HM.sec rfl) (by rw [J2,HE.out]) rfl rfl ?_;refine nm ?_;refine J3 (cs:=(u8s r.enc).toArray) HM.res (by rw [J2,HE.out,List.length_map,HZ128.out]) (by rw [J2,HE.out];exact Yb) (Jj _) rfl rfl rfl ?_;intro wz hD hO hl;refine nm ?_;have HB:=Zh (HM.bel.trans (hO.below HM.bel.size (fun k hk=>by rw [hk];exact HM.lb)));go_wp2_with fail
          exact bodyPost_ret (v:=.agg (u8s r.enc).toArray) (Jp rfl _ _ g11 0 _ _ rfl Tryz.underlying137 rfl (by rw [J2,HE.out];exact Yb) (Blk.all hD rfl)) rfl ⟨rfl,HB.out⟩
theorem wrap_err(T:TypeId)(d:Value)(t:ByteArray)(ts:List ByteArray)(s:ByteArray)(w:World)(h:Chain w 11 (t::ts) (.iface T d)):Calls Tryz.prog 59 #[.iface T d,.string s] w fun e w'=>∃T d t ts,e=.returned (.iface T d)∧Chain w' 11 (t::ts) (.iface T d)∧Below w.heap.size w w' :=
 (XT _ 11 t ts s w h).mono fun e w' ⟨v,h1,h2,h3⟩=>by
  obtain⟨T,d,rfl⟩:=h2.shape;exact⟨T,d,_,_,h1,h2,h3⟩
theorem new_err(s:ByteArray)(w:World):Calls Tryz.prog 56 #[.int .i64 11,.string s] w fun e w'=>∃T d t ts,e=.returned (.iface T d)∧Chain w' 11 (t::ts) (.iface T d)∧Below w.heap.size w w' :=
 (Qf 11 s w rfl).mono fun e w' ⟨v,h1,h2,h3⟩=>by
  obtain⟨T,d,rfl⟩:=h2.shape;exact⟨T,d,_,_,h1,h2,h3⟩
theorem store_W{x:Operand}{g:Nat}{l:List Value}(dst:Option Tmp)(hd:o.dst=dst)(ho:o.op=.store t x y)(hb:Blk w g l)(hl:l.length=cs.size)(hi:(Tryz.prog.info? t).map (·.size)=some cs.size)(h1:∀v∈cs,v.oneCell'=true)(hx:a.eval x=.pointer (some ⟨g,0,none⟩))(hy:a.eval y=.agg cs)(h:∀wX,Blk wX g cs.toList→Only (fun k=>k=g) w wX→K (a.put dst undef) wX):o.wp Tryz.prog a w K Q:=by
 subst hd;refine Kp t x y ho g 0 cs hx hy l hb hi (by omega) h1 ?_;have:=hb.row (Jt l 0 cs);rw [JW _ _ hl] at this ⊢;exact h _ this ((Only.refl (fun k=>k=g) w).setRow (.inl rfl) _)
theorem Jhw(T:TypeId)(d:Value)(t:ByteArray)(ts:List ByteArray)(w:World)(hg:ErrVar w)(h:Chain w 11 (t::ts) (.iface T d)):Calls Tryz.prog 36 #[.iface T d] w (Zr w (.int .i64 11)):=J1x 11 _ T d w hg h
theorem of_none(w:World):Calls Tryz.prog 36 #[.nilIface] w fun e w'=>e=.returned (.int .i64 0)∧Below w.heap.size w w' :=
 (jw w).mono fun e w' ⟨h1,h2⟩=>by subst h2;exact⟨h1,Below.refl _ _⟩
structure RS (W w:World) (a b c:Nat) (x:List Int) (L:List Value):Prop where
 arg:Blk w a (u8s x)
 res:Blk w b Rg.none.cells
 var:Blk w c L
 bel:Below W.heap.size W w
 ab:a≠b
 ac:a≠c
 bc:b≠c
 lb:W.heap.size≤b
 lc:W.heap.size≤c
theorem RS.below{a:Nat}{x:List Int}(h:RS W w a b c x L)(hb:Below w.heap.size w w'):RS W w' a b c x L :=
 ⟨h.arg.below hb h.arg.lt,h.res.below hb h.res.lt,h.var.below hb h.var.lt,h.bel.trans (hb.mono h.bel.size),h.ab,h.ac,h.bc,h.lb,h.lc⟩
theorem RS.put{a:Nat}{x:List Int}(h:RS W w a b c x L)(ho:Only (fun k=>k=c) w w')(hs:Blk w' c M):RS W w' a b c x M :=
 ⟨h.arg.only ho h.ac,h.res.only ho h.bc,hs,h.bel.trans (ho.below h.bel.size fun k hk=>by rw [hk];exact h.lc),h.ab,h.ac,h.bc,h.lb,h.lc⟩
theorem RS.set{a:Nat}{x:List Int}(h:RS W w a b c x L)(i:Nat)(v:Value):RS W (w.setCell ⟨c,i,none⟩ v) a b c x (L.set i v) :=
 h.put ((Only.refl (fun k=>k=c) w).setCell (p:=⟨c,i,none⟩) (.inl rfl) _) (h.var.set i v)
theorem Jb5{H T:List Value}{y:Value}{o:Nat}(h:H.length=o):(H++(y::T)).set o v=(H++[v])++T:=by
 subst h;rw [List.set_append_right _ _ Zy,Nat.sub_self];simp
theorem Jb6{H T:List Value}{y:Value}{o:Nat}(h:H.length=o):(H++(y::T))[o]? = some y:=by
 subst h;rw [List.getElem?_append_right Zy,Nat.sub_self];rfl
theorem Jeq{H A T:List Value}{y:Value}{o:Nat}(h:H.length=o):(H++((y::A)++T)).set o v=(H++[v])++(A++T):=Jb5 h
theorem Jer{H A T:List Value}{y:Value}{o:Nat}(h:H.length=o):(H++((y::A)++T))[o]? = some y:=Jb6 h
def rl(x:List Int)(k:Nat):List Value:=(.int .u32 (num ((x.drop 2).take 4))::Jq ((x.drop 6).take k))++(Jq (zeros (6-k))++(.int .u32 (num ((x.drop 12).take 4))::Jq (zeros 8)))
def rm(x:List Int)(k:Nat):List Value:=((readOf x).hd++Jq ((Ya x).take k))++Jq (zeros (8-k))
theorem Yc(n:Nat):Jq (zeros (n+1))=.int .i64 0::Jq (zeros n):=rfl
theorem Jes(x:List Int)(hx:x.length=128)(hk:k<6):(rl x k)[1+k]? = some (.int .i64 0):=by
 unfold rl;rw [show 6-k=(5-k)+1 by omega,Yc];exact Jer (by simp [hx];omega)
theorem Jet(x:List Int)(hx:x.length=128)(hk:k<6):(rl x k).set (1+k) (.int .i64 (x.getD (6+k) 0))=rl x (k+1):=by
 unfold rl;rw [show 6-k=(5-k)+1 by omega,Yc,Jeq (by simp [hx];omega),List.take_add_one (l:=x.drop 6),List.getElem?_drop,List.getD_eq_getElem?_getD,List.getElem?_eq_getElem (by omega),show 6-(k+1)=5-k by omega];simp
theorem Jje(x:List Int)(hx:x.length=128):rl x 6=rm x 0:=by
 unfold rl rm readOf Rg.hd;have h6:(x.drop 6).take 6=[x.getD 6 0,x.getD 7 0,x.getD 8 0,x.getD 9 0,x.getD 10 0,x.getD 11 0]:=by
  apply List.ext_getElem?;intro i
  by_cases hi:i<6
  · rw [List.getElem?_take,if_pos hi,List.getElem?_drop,List.getElem?_eq_getElem (by omega)];rcases (show i=0∨i=1∨i=2∨i=3∨i=4∨i=5 by omega) with rfl|rfl|rfl|rfl|rfl|rfl <;> simp [List.getElem?_eq_getElem,hx]
  · rw [List.getElem?_eq_none (by simp;omega),List.getElem?_eq_none (by simp;omega)]
 rw [h6];simp [zeros]
theorem Jeu(x:List Int)(hk:k<8):(rm x k)[8+k]? = some (.int .i64 0):=by
 unfold rm;rw [show 8-k=(7-k)+1 by omega,Yc];exact Jb6 (by simp [Rg.hd,QA];omega)
theorem Jev(x:List Int)(hk:k<8):(rm x k).set (8+k) (.int .i64 (num ((x.drop (70+2*k)).take 2)))=rm x (k+1):=by
 unfold rm;rw [show 8-k=(7-k)+1 by omega,Yc,Jb5 (by simp [Rg.hd,QA];omega),List.take_add_one (l:=Ya x),J2j x hk,show 8-(k+1)=7-k by omega];simp
theorem Jb7(x:List Int):rm x 8=(readOf x).cells:=by
 unfold rm Rg.cells;rw [List.take_of_length_le (by rw [QA];omega)];simp [zeros,readOf]
theorem qt(n m:Int):Tryz.prog.built 56 [(0,.int .u32 n),(4,.int .u32 m)]=some #[.int .u32 n,.int .i64 0,.int .i64 0,.int .i64 0,.int .i64 0,.int .i64 0,.int .i64 0,.int .u32 m,.int .i64 0,.int .i64 0,.int .i64 0,.int .i64 0,.int .i64 0,.int .i64 0,.int .i64 0,.int .i64 0]:=by kernel_rfl
theorem Ql(x:List Int):rl x 0=[.int .u32 (num ((x.drop 2).take 4)),.int .i64 0,.int .i64 0,.int .i64 0,.int .i64 0,.int .i64 0,.int .i64 0,.int .u32 (num ((x.drop 12).take 4)),.int .i64 0,.int .i64 0,.int .i64 0,.int .i64 0,.int .i64 0,.int .i64 0,.int .i64 0,.int .i64 0]:=by
 simp [rl,zeros]
theorem qu{a:Nat}{x:List Int}(h:Blk w a (u8s x))(o n:Nat):∀i y,((x.drop o).take n)[i]? = some y→w.cell? ⟨a,o+i,none⟩=some (.int .u8 y):=fun i y hy=>by
 refine h.cell ?_;rw [List.getElem?_take] at hy;split at hy
 · rw [List.getElem?_drop] at hy;rw [List.getElem?_map,hy];rfl
 · cases hy
theorem j0{a:Nat}{x:List Int}(h:Blk w a (u8s x))(hx:Sc2 x)(o cap:Nat)(ho:o+4≤128):Calls Tryz.prog 183 #[.slice (some ⟨a,o,none⟩) 4 cap] w fun e w'=>e=.returned (.int .u32 (num ((x.drop o).take 4)))∧w=w' :=
 get4_any w a o cap _ (ZZ hx.length ho) (fun y hy=>hx.bytes y (List.mem_of_mem_drop (List.mem_of_mem_take hy))) (qu h o 4)
theorem Jew{a:Nat}{x:List Int}(h:Blk w a (u8s x))(hx:Sc2 x)(o cap:Nat)(ho:o+2≤128):Calls Tryz.prog 183 #[.slice (some ⟨a,o,none⟩) 2 cap] w fun e w'=>e=.returned (.int .u32 (num ((x.drop o).take 2)))∧w=w' :=
 get2_any w a o cap _ (ZZ hx.length ho) (fun y hy=>hx.bytes y (List.mem_of_mem_drop (List.mem_of_mem_take hy))) (qu h o 2)
theorem read_any(x:List Int)(hx:Sc2 x)(w:World):Calls Tryz.prog 174 #[.agg (u8s x).toArray] w (Zr w (.agg (readOf x).cells.toArray)):=by
 have HSC:=Zh hx;have HXL:=Zh hx.length;have HWN:=Zh none_wf;have HBL:Hid (Below w.heap.size w w):=Zh Zq;clear hx;go_enter Tryz.func174,Tryz.ntmps174;go_upto_region 0 with fail;refine Zl ?_;refine JV rfl rfl ?_;intro w1 hA hb hl;refine nm ?_;clear hl;have HG2:Hid (w.heap.size≤w.heap.size):=Zh HBL.size;have F3:=Zh (HBL.trans (hb.mono HBL.size));clear HBL;have F4:Hid (Blk w1 w.heap.size (u8s x)):=Zh hA;clear hA hb;refine J4 Ke rfl ?_;intro w5 hA hb hl;refine nm ?_;clear hl;have HN6:=Zh (Nat.ne_of_lt F4.lt);have HG7:Hid (w.heap.size≤w1.heap.size):=Zh F3.size;have F8:=Zh (F3.trans (hb.mono F3.size));have F9:=Zh (F4.below hb F4.lt);clear F3 F4;have F10:Hid (Blk w5 w1.heap.size Rg.none.cells):=Zh hA;clear hA hb;generalize w1.heap.size=g11 at *;clear w1;go_upto_region 1 with fail
 go_cut [3] from 3 to 14 (fun s3 wx=>∃c:Nat,s3=.pointer (some ⟨c,0,none⟩)∧RS w wx w.heap.size g11 c x (rl x 0))
 case first =>
  refine J9 (fun _=>True) (by kernel_rfl) ?_;refine th 0 7 (.pointer (some ⟨w.heap.size,0,none⟩)) trivial ?_;refine th 1 8 (.slice (some ⟨w.heap.size,2,none⟩) 4 62) trivial ?_;refine th 3 10 (.pointer (some ⟨w.heap.size,0,none⟩)) trivial ?_;refine th 4 11 (.slice (some ⟨w.heap.size,12,none⟩) 4 52) trivial ?_;refine kO 2 7 (by kernel_rfl) rfl rfl rfl rfl (fun K hK=>?_) (fun K hK=>?_)
  · go_simp;refine (j0 F9.drew HSC.out 2 62 (by decide)).mono ?_;rintro e w1 ⟨rfl,rfl⟩;refine hK _ _ trivial (nm ?_);clear hK K;refine kO 5 7 (by kernel_rfl) rfl rfl rfl rfl (fun K hK=>?_) (fun K hK=>?_)
    · go_simp;refine (j0 F9.drew HSC.out 12 52 (by decide)).mono ?_;rintro e w1 ⟨rfl,rfl⟩;refine hK _ _ trivial (nm ?_);clear hK K;refine th 6 13 (.agg (rl x 0).toArray) trivial ?_ (hy:=fun wq hS=>by rw [Ql];exact J8 _ _ _ _ 56 _ rfl #[(0,.int .u32 (num ((x.drop 2).take 4))),(4,.int .u32 (num ((x.drop 12).take 4)))] (by simp only [List.map_toArray,List.map_cons,List.map_nil];rfl) _ (run_build _ 56 _ _ (qt _ _)));refine Zo 7 fun K hK=>?_;refine Jf (some 3) rfl _ _ (JB _ _ _ 56 rfl _ Ke) ?_;refine hK _ _ trivial (nm ?_);clear hK K;refine Zo 8 fun K hK=>?_;refine store_W none rfl rfl (Blk.newAt (w:=w5.drew) (cs:=Rg.none.cells.toArray) 56 w5.heap.size Rg.none.cells rfl rfl) (by rw [Ql];rfl) (by rw [Ql];exact QZ) (by rw [Ql];exact fun v hv=>by simp only [List.mem_toArray,List.mem_cons,List.not_mem_nil,or_false] at hv;rcases hv with rfl|rfl|rfl|rfl|rfl|rfl|rfl|rfl|rfl|rfl|rfl|rfl|rfl|rfl|rfl|rfl <;> rfl) rfl rfl fun wy hD hO=>?_;have hal:Below w5.heap.size w5 (w5.drew.alloc (.cells Rg.none.cells.toArray 56)):=Zq.drew.alloc Zy _;refine hK _ _ trivial (nm ?_);clear hK K;refine Zd ?_
      go_wp2_with fail
      go_meet
      exact⟨w5.heap.size,rfl,(F9.below hal F9.lt).only hO (Nat.ne_of_lt F9.lt),(F10.below hal F10.lt).only hO (Nat.ne_of_lt F10.lt),hD,(F8.trans (hal.mono F8.size)).trans (hO.below (Nat.le_trans F8.size hal.size) fun k hk=>by rw [hk];exact F8.size),HN6.out,Nat.ne_of_lt F9.lt,Nat.ne_of_lt F10.lt,HG7.out,F8.size⟩
    · refine Jf (some 3) rfl _ _ (JB _ _ _ 56 rfl _ Ke) ?_;refine hK _ _ trivial (nm ?_);clear hK K;refine Zo 5 fun K hK=>?_;go_simp;refine (j0 (F9.drew.below ((Below.refl w5.heap.size w5.drew).alloc (Nat.le_refl w5.heap.size) (.cells Rg.none.cells.toArray 56)) F9.lt) HSC.out 12 52 (by decide)).mono ?_;rintro e w1 ⟨rfl,rfl⟩;refine hK _ _ trivial (nm ?_);clear hK K;refine th 6 13 (.agg (rl x 0).toArray) trivial ?_ (hy:=fun wq hS=>by rw [Ql];exact J8 _ _ _ _ 56 _ rfl #[(0,.int .u32 (num ((x.drop 2).take 4))),(4,.int .u32 (num ((x.drop 12).take 4)))] (by simp only [List.map_toArray,List.map_cons,List.map_nil];rfl) _ (run_build _ 56 _ _ (qt _ _)));refine Zo 8 fun K hK=>?_;refine store_W none rfl rfl (Blk.newAt (w:=w5.drew) (cs:=Rg.none.cells.toArray) 56 w5.heap.size Rg.none.cells rfl rfl) (by rw [Ql];rfl) (by rw [Ql];exact QZ) (by rw [Ql];exact fun v hv=>by simp only [List.mem_toArray,List.mem_cons,List.not_mem_nil,or_false] at hv;rcases hv with rfl|rfl|rfl|rfl|rfl|rfl|rfl|rfl|rfl|rfl|rfl|rfl|rfl|rfl|rfl|rfl <;> rfl) rfl rfl fun wy hD hO=>?_;have hal:Below w5.heap.size w5 (w5.drew.alloc (.cells Rg.none.cells.toArray 56)):=Zq.drew.alloc Zy _;refine hK _ _ trivial (nm ?_);clear hK K;refine Zd ?_
      go_wp2_with fail
      go_meet
      exact⟨w5.heap.size,rfl,(F9.below hal F9.lt).only hO (Nat.ne_of_lt F9.lt),(F10.below hal F10.lt).only hO (Nat.ne_of_lt F10.lt),hD,(F8.trans (hal.mono F8.size)).trans (hO.below (Nat.le_trans F8.size hal.size) fun k hk=>by rw [hk];exact F8.size),HN6.out,Nat.ne_of_lt F9.lt,Nat.ne_of_lt F10.lt,HG7.out,F8.size⟩
  · refine Jf (some 3) rfl _ _ (JB _ _ _ 56 rfl _ Ke) ?_;refine hK _ _ trivial (nm ?_);clear hK K;refine Zo 2 fun K hK=>?_;go_simp;refine (j0 (F9.drew.below ((Below.refl w5.heap.size w5.drew).alloc (Nat.le_refl w5.heap.size) (.cells Rg.none.cells.toArray 56)) F9.lt) HSC.out 2 62 (by decide)).mono ?_;rintro e w1 ⟨rfl,rfl⟩;refine hK _ _ trivial (nm ?_);clear hK K;refine Zo 5 fun K hK=>?_;go_simp;refine (j0 (F9.drew.below ((Below.refl w5.heap.size w5.drew).alloc (Nat.le_refl w5.heap.size) (.cells Rg.none.cells.toArray 56)) F9.lt) HSC.out 12 52 (by decide)).mono ?_;rintro e w1 ⟨rfl,rfl⟩;refine hK _ _ trivial (nm ?_);clear hK K;refine th 6 13 (.agg (rl x 0).toArray) trivial ?_ (hy:=fun wq hS=>by rw [Ql];exact J8 _ _ _ _ 56 _ rfl #[(0,.int .u32 (num ((x.drop 2).take 4))),(4,.int .u32 (num ((x.drop 12).take 4)))] (by simp only [List.map_toArray,List.map_cons,List.map_nil];rfl) _ (run_build _ 56 _ _ (qt _ _)));refine Zo 8 fun K hK=>?_;refine store_W none rfl rfl (Blk.newAt (w:=w5.drew) (cs:=Rg.none.cells.toArray) 56 w5.heap.size Rg.none.cells rfl rfl) (by rw [Ql];rfl) (by rw [Ql];exact QZ) (by rw [Ql];exact fun v hv=>by simp only [List.mem_toArray,List.mem_cons,List.not_mem_nil,or_false] at hv;rcases hv with rfl|rfl|rfl|rfl|rfl|rfl|rfl|rfl|rfl|rfl|rfl|rfl|rfl|rfl|rfl|rfl <;> rfl) rfl rfl fun wy hD hO=>?_;have hal:Below w5.heap.size w5 (w5.drew.alloc (.cells Rg.none.cells.toArray 56)):=Zq.drew.alloc Zy _;refine hK _ _ trivial (nm ?_);clear hK K;refine Zd ?_
    go_wp2_with fail
    go_meet
    exact⟨w5.heap.size,rfl,(F9.below hal F9.lt).only hO (Nat.ne_of_lt F9.lt),(F10.below hal F10.lt).only hO (Nat.ne_of_lt F10.lt),hD,(F8.trans (hal.mono F8.size)).trans (hO.below (Nat.le_trans F8.size hal.size) fun k hk=>by rw [hk];exact F8.size),HN6.out,Nat.ne_of_lt F9.lt,Nat.ne_of_lt F10.lt,HG7.out,F8.size⟩
 case rest =>
  obtain⟨c,rfl,hrs⟩:=hcut;have HL:=Zh hrs;clear hrs F9 F10 F8 HN6 HG2 HG7
  go_wp2_with fail
  refine (J00 c _).mono ?_;rintro e w7 ⟨rfl,hb⟩;have HN:=Zh (HL.below hb);clear hb HL
  go_wp2_with fail
  go_loopg [15] 6 (fun q i wr=>∃k:Nat,6-k≤q∧k≤6∧i=.int .i64 k∧RS w wr w.heap.size g11 c x (rl x k))
  case atStart=>exact⟨0,by omega,by omega,rfl,HN.out⟩
  case round =>
   obtain⟨k,hq,hk,rfl,hls⟩:=hrel;have HM:=Zh hls;clear HN hls;clear w7
   by_cases h6:k<6
   · have hi:=zZ c k h6;obtain⟨p0,p1⟩:=sc_byte HSC.out (6+k);have c0:=HM.arg.u8 (i:=6+k) (by rw [HXL.out];omega);have d0:=HM.var.cell (Jes x HXL.out h6);have f0:=HM.var.frozen (1+k);have HX:Hid (x.getD (6+k) 0=x.getD (6+k) 0):=Zh rfl;generalize hy:x.getD (6+k) 0=y at c0 p0 p1;have HY:=Zh hy;clear hy HX
     go_wp2_with fail
     go_roundg (6-(k+1))
     case measure=>omega
     case rel =>
      have hs:=HM.set (1+k) (.int .i64 y);rw [←HY.out,Jet x HXL.out h6] at hs;exact⟨k+1,by omega,by omega,by go_num,by rw [←HY.out];exact hs⟩
   · obtain rfl:k=6:=by omega
     rw [Jje x HXL.out] at HM
     go_wp2_with fail
     go_loopg [28] 8 (fun q i wr=>∃k:Nat,8-k≤q∧k≤8∧i=.int .i64 k∧RS w wr w.heap.size g11 c x (rm x k))
     case atStart=>exact⟨0,by omega,by omega,rfl,HM.out⟩
     case round =>
      obtain⟨k,hq,hk,rfl,hls⟩:=hrel;have HN:=Zh hls;clear HM hls
      by_cases h8:k<8
      · have HRA:=Zh fun W=>qs W w.heap.size k h8;obtain⟨p0,p1⟩:0≤num ((x.drop (70+2*k)).take 2)∧num ((x.drop (70+2*k)).take 2)<65536:=ZY HSC.out (70+2*k) 2 (by omega);have HG:=Zh fun W (h:Blk W w.heap.size (u8s x))=>Jew h HSC.out (70+2*k) (58-2*k) (by omega);have hn:=Jev x h8;generalize num ((x.drop (70+2*k)).take 2)=y at *;have HNX:=Zh hn;clear hn
        go_wp2_with fail
        refine (HRA.out _).mono ?_;rintro e w9 ⟨rfl,rfl⟩
        go_wp2_with fail
        refine (HG.out _ HN.arg).mono ?_;rintro e w9 ⟨rfl,rfl⟩;have d0:=HN.var.cell (Jeu x h8);have f0:=HN.var.frozen (8+k)
        go_wp2_with fail
        go_roundg (8-(k+1))
        case measure=>omega
        case rel =>
         have hs:=HN.set (8+k) (.int .i64 y);rw [HNX.out] at hs;exact⟨k+1,by omega,by omega,by go_num,hs⟩
      · obtain rfl:k=8:=by omega
        rw [Jb7] at HN;have HWF:=Zh (readOf_wf HSC.out);go_upto_region 12 with fail;refine Zl ?_;refine yq (cs:=(readOf x).cells.toArray) (Blk.all HN.var rfl) (by rw [List.size_toArray];exact HWF.cells) rfl rfl ?_;refine nm ?_;refine J3 (cs:=(readOf x).cells.toArray) HN.res (by simp only [List.size_toArray,HWN.cells,HWF.cells]) (by rw [List.size_toArray,HWF.cells];exact QZ) (fun v hv=>Rg.cell_one _ v (by simpa using hv)) rfl rfl rfl ?_;intro wz hD hO hl;refine nm ?_;have HB:=Zh (HN.bel.trans (hO.below HN.bel.size (fun k hk=>by rw [hk];exact HN.lb)));go_wp2_with fail
        exact bodyPost_ret (v:=.agg (readOf x).cells.toArray) (Jp rfl _ _ g11 0 _ _ rfl Tryz.underlying56 rfl (by rw [List.size_toArray,HWF.cells];exact QZ) (Blk.all hD rfl)) rfl ⟨rfl,HB.out⟩
theorem kl(t e b:TypeId)(k:IntKind)(i i5:TypeInfo)(ht:P.underlying t=some (.array 2 e))(he:P.underlying e=some (.array 64 b))(hb:P.underlying b=some (.int k))(hi:P.info? e=some i)(hs:i.size=64)(hi5:P.info? b=some i5)(hs5:i5.size=1)(w:World)(d:Nat)(l m:List Int)(hl:l.length=128)(hm:m.length=128):(Op.equalIn (d+3) t (.agg (u8s l).toArray) (.agg (u8s m).toArray)).run P w=.ok (decide (l=m)) w:=by
 have part (x:List Int) (hx:x.length=128) (j:Nat) (hj:j<2):(Go.part e (u8s x).toArray (j*64)).run P w=.ok (.agg (u8s ((x.drop (64*j)).take 64)).toArray) w:=by
  have hagg:(isAgg e).run P w=.ok true w:=by
   unfold isAgg;rw [Sem.run_bind,run_underlying he w];rfl
  have ee:(u8s x).toArray.extract (j*64) (j*64+64)=(u8s ((x.drop (64*j)).take 64)).toArray:=by
   simp [List.map_take,List.map_drop,Nat.mul_comm]
  unfold Go.part;simp only [Sem.run_bind,hagg,Result.andThen_ok,if_true,sizeOf,typeInfo,hi,hs,run_program,Sem.run_pure,ee]
 have q (j:Nat) (hj:j<2):=QG (P:=P) w d e b 64 k .u8 i5 ((l.drop (64*j)).take 64) ((m.drop (64*j)).take 64) he hb hi5 hs5 (ZZ hl (by omega)) (ZZ hm (by omega));have e1:decide (l=m)=(decide ((l.drop (64*0)).take 64=(m.drop (64*0)).take 64)&&decide ((l.drop (64*1)).take 64=(m.drop (64*1)).take 64)):=by
  rw [←Bool.decide_and];refine decide_eq_decide.2 ⟨fun h=>by rw [h];exact⟨rfl,rfl⟩,fun ⟨h0,h1⟩=>?_⟩;have t:∀x:List Int,x.length=128→x=(x.drop (64*0)).take 64++(x.drop (64*1)).take 64:=fun x hx=>by
   rw [Nat.mul_zero,List.drop_zero,Nat.mul_one,List.take_of_length_le (l:=x.drop 64) (by simp;omega),List.take_append_drop]
  rw [t l hl,t m hm,h0,h1]
 have pl0:=part l hl 0 (by decide);have pl1:=part l hl 1 (by decide);have pm0:=part m hm 0 (by decide);have pm1:=part m hm 1 (by decide);have q0:=q 0 (by decide);have q1:=q 1 (by decide);rw [e1];clear part q e1;generalize (l.drop (64*0)).take 64=l0 at *;generalize (l.drop (64*1)).take 64=l1 at *;generalize (m.drop (64*0)).take 64=m0 at *;generalize (m.drop (64*1)).take 64=m1 at *;generalize (u8s l).toArray=xl at *;generalize (u8s m).toArray=xm at *;generalize (u8s l0).toArray=a0 at *;generalize (u8s l1).toArray=a1 at *;generalize (u8s m0).toArray=b0 at *;generalize (u8s m1).toArray=b1 at *;unfold Op.equalIn;simp only [Sem.run_bind,run_underlying ht,Result.andThen_ok,sizeOf,typeInfo,run_program,hi,Sem.run_pure,hs,Std.Legacy.Range.forIn_eq_forIn_range',Std.Legacy.Range.size,Nat.sub_zero,Nat.add_sub_cancel,Nat.div_one,show List.range' 0 2=[0,1] from rfl,List.forIn_cons,List.forIn_nil,pl0,pm0,q0];cases decide (l0=m0) <;> cases hd:decide (l1=m1) <;> simp [Sem.run_bind,pl1,pm1,q1,hd]
theorem Jb8:Tryz.prog.eqGuardType Tryz.prog.depth 137=false:=by kernel_rfl
theorem jV{m:List Int}{v:Bool}(hv:decide (l=m)=!v)(hl:l.length=128)(hm:m.length=128)(ev:Operand→Value)(o:Oper)(w:World){x:Operand}(ho:o.op=.binOp .neq 137 x y t)(hx:ev x=.agg (u8s l).toArray)(hy:ev y=.agg (u8s m).toArray):(execOp ev o).run Tryz.prog w=.ok (.value (.bool v)) w:=by
 obtain⟨i,hi,hs⟩:=KV info36;obtain⟨i5,hi5,hs5⟩:=KV Xb;have h:=kl 137 36 5 _ i i5 Tryz.underlying137 Tryz.underlying36 Tryz.underlying5 hi hs hi5 hs5 w 9997 l m hl hm;rw [hv] at h;have hb:(binOp .neq 137 (.agg (u8s l).toArray) (.agg (u8s m).toArray)).run Tryz.prog w=.ok (.bool v) w:=by
  simp only [binOp];simp [Op.equal,Op.maxDepth,h]
 unfold execOp;simp only [ho,hx,hy,Sem.run_bind,run_eqGuard_agg w .neq 137 x y _ _ Jb8,Result.andThen_ok,hb,Sem.run_pure]
theorem _root_.Go.Proofs.YtdbfmikeaoaebaaGreatDoor.Only.into{a:World}{g:Nat}(h:Only S a w)(ho:Only (fun k=>k=g) w w')(hg:a.heap.size≤g):Only S a w' :=
 ⟨ho.os.trans h.os,ho.tape.trans h.tape,ho.output.trans h.output,Nat.le_trans h.size ho.size,fun i hi hs=>(ho.block i (Nat.lt_of_lt_of_le hi h.size) (by omega)).trans (h.block i hi hs)⟩
theorem _root_.Go.Proofs.YtdbfmikeaoaebaaGreatDoor.Only.after{T:Nat→Prop}{a:World}(h:Only S a w)(ho:Only T w w')(hf:∀k,T k→S k∨a.heap.size≤k):Only S a w' :=
 ⟨ho.os.trans h.os,ho.tape.trans h.tape,ho.output.trans h.output,Nat.le_trans h.size ho.size,fun i hi hs=>(ho.block i (Nat.lt_of_lt_of_le hi h.size) fun ht=>(hf i ht).elim hs fun h=>Nat.lt_irrefl _ (Nat.lt_of_lt_of_le hi h)).trans (h.block i hi hs)⟩
theorem _root_.Go.Proofs.YtdbfmikeaoaebaaGreatDoor.Only.foot{T U:Nat→Prop}{A:Nat}(h:∀k,T k→S k∨A≤k)(hf:∀k,U k→T k∨n≤k)(hn:A≤n):∀k,U k→S k∨A≤k:=fun k hk=>(hf k hk).elim (h k) fun h=>.inr (Nat.le_trans hn h)
theorem _root_.Go.Proofs.YtdbfmikeaoaebaaGreatDoor.ErrVar.after(h:ErrVar w)(ho:Only S w w')(h0:¬S 0):ErrVar w':=by
 have hl:=h.lt;unfold ErrVar at h ⊢;rw [World.cell?_of_block (w:=w) (ho.block 0 hl h0)];exact h
structure Stays (N:Nat) (A:Nat→Prop) (E:World→Prop):Prop where
 eb:∀u u',N≤u.heap.size→E u→Below u.heap.size u u'→E u'
 eo:∀g,N≤g→¬A g→∀v v',E v→(∀t,v.cell? ⟨g,0,none⟩≠some (.string t))→Only (fun k=>k=g) v v'→E v'
 lt:∀u,E u→∀k,A k→k<u.heap.size
theorem Stays.and{F:World→Prop}(h:Stays N A E)(k:Stays N (fun _=>False) F):Stays N A fun w=>E w∧F w :=
 ⟨fun u u' hn he hb=>⟨h.eb u u' hn he.1 hb,k.eb u u' hn he.2 hb⟩,fun g hg ha v v' hv hs ho=>⟨h.eo g hg ha v v' hv.1 hs ho,k.eo g hg id v v' hv.2 hs ho⟩,fun u hu=>h.lt u hu.1⟩
theorem Stays.below(W:World):Stays W.heap.size (fun _=>False) fun w=>Below W.heap.size W w :=
 ⟨fun u u' hn he hb=>he.trans (hb.mono hn),fun g hg _ v v' hv hs ho=>hv.trans (ho.below hv.size fun k hk=>by rw [hk];exact hg),fun _ _ _ h=>h.elim⟩
theorem Stays.only:Stays W.heap.size (fun _=>False) fun w=>Only S W w :=
 ⟨fun u u' hn he hb=>he.trans (Only.of_below hb),fun g hg _ v v' hv hs ho=>hv.into ho hg,fun _ _ _ h=>h.elim⟩
theorem Stays.err(h0:0<N):Stays N (fun _=>False) ErrVar :=
 ⟨fun u u' hn he hb=>he.below Zy hb,fun g hg _ v v' hv hs ho=>hv.keep ho hg h0,fun _ _ _ h=>h.elim⟩
theorem Stays.chain{n:Int}{ts:List ByteArray}{x:Value}:Stays N (fun _=>False) fun w=>Chain w n ts x :=
 ⟨fun u u' hn he hb=>he.below Zy hb,fun g hg _ v v' hv hs ho=>hv.keep ho hs,fun _ _ _ h=>h.elim⟩
theorem Stays.dv{d:De.D}(hN:W.heap.size≤N):Stays N F fun w=>De.Dv W w b F d :=
 ⟨fun u u' hn he hb=>he.below hb,fun g hg ha v v' hv hs ho=>hv.go1 ho (Nat.le_trans hN hg) ha,fun u hu k hk=>(hu.lt k hk).2⟩
theorem Stays.both{B:Nat→Prop}{F:World→Prop}(h:Stays N A E)(k:Stays N B F):Stays N (fun i=>A i∨B i) fun w=>E w∧F w :=
 ⟨fun u u' hn he hb=>⟨h.eb u u' hn he.1 hb,k.eb u u' hn he.2 hb⟩,fun g hg ha v v' hv hs ho=>⟨h.eo g hg (fun x=>ha (.inl x)) v v' hv.1 hs ho,k.eo g hg (fun x=>ha (.inr x)) v v' hv.2 hs ho⟩,fun u hu i hi=>hi.elim (h.lt u hu.1 i) (k.lt u hu.2 i)⟩
theorem Stays.bytes:Stays N (fun k=>l≠[]∧sv.ownBlock=some k) fun u=>BytesAt u sv l :=
 ⟨fun u u' hn he hb=>he.below hb,fun g hg ha v v' hv hs ho=>by
  obtain⟨a,cap,e,hc⟩:=hv
  refine⟨a,cap,e,fun i x hx=>?_⟩
  obtain⟨b,o,ha',hc'⟩:=hc i x hx
  refine⟨b,o,ha',ho.cell (fun hbg=>ha ⟨fun h0=>by rw [h0] at hx;simp at hx,?_⟩) hc'⟩
  have hbg:b=g:=hbg
  rw [e,ha',hbg]
  rfl,fun u hu k ⟨h0,hk⟩=>by
  obtain⟨a,cap,e,hc⟩:=hu
  cases l with
  | nil=>exact absurd rfl h0
  | cons x r =>
   obtain⟨b,o,ha',hc'⟩:=hc 0 x rfl
   rw [e,ha'] at hk
   cases hk
   exact block_lt_of_cell hc'⟩
theorem KR(h:l.length=n):(u8s l).length=n:=(List.length_map _).trans h
structure St (N:Nat) (A:Nat→Prop) (E:World→Prop) (V:List (Nat×List Value)) (w:World):Prop where
 sz:N≤w.heap.size
 blk:∀(i g:Nat) (L:List Value),V[i]? = some (g,L)→Blk w g L
 ge:∀(i g:Nat) (L:List Value),V[i]? = some (g,L)→N≤g
 nd:∀(i j g:Nat) (L M:List Value),V[i]? = some (g,L)→V[j]? = some (g,M)→i=j
 ex:E w
 st:Stays N A E
 av:∀(i g:Nat) (L:List Value),V[i]? = some (g,L)→¬A g
 ns:∀(i g:Nat) (L:List Value),V[i]? = some (g,L)→∀v∈L,∀t,v≠.string t
theorem St.start(hs:Stays w.heap.size A E)(h:E w):St w.heap.size A E [] w :=
 ⟨Nat.le_refl _,fun i g L h=>by simp at h,fun i g L h=>by simp at h,fun i j g L M h=>by simp at h,h,hs,fun i g L h=>by simp at h,fun i g L h=>by simp at h⟩
theorem St.call(h:St N A E V w)(hb:Below w.heap.size w w'):St N A E V w' :=
 ⟨Nat.le_trans h.sz hb.size,fun i g L hi=>(h.blk i g L hi).below hb (h.blk i g L hi).lt,h.ge,h.nd,h.st.eb w w' h.sz h.ex hb,h.st,h.av,h.ns⟩
theorem St.drew(h:St N A E V w):St N A E V w.drew:=h.call Zq.drew
theorem snoc_at{A:Type}{V:List A}{x y:A}(h:(V++[x])[i]? = some y):V[i]? = some y∨(i=V.length∧y=x):=by
 rcases Nat.lt_trichotomy i V.length with hl|hl|hl
 · rw [List.getElem?_append_left hl] at h;exact .inl h
 · subst hl;rw [List.getElem?_append_right Zy,Nat.sub_self] at h;exact .inr ⟨rfl,(Option.some.inj h).symm⟩
 · rw [List.getElem?_eq_none (by simp;omega)] at h;cases h
theorem St.new(h:St N A E V w)(hns:∀v∈L,∀t,v≠.string t)(hA:Blk w' w.heap.size L)(hb:Below w.heap.size w w'):St N A E (V++[(w.heap.size,L)]) w':=by
 have hc:=h.call hb;refine⟨hc.sz,fun i g M hi=>?_,fun i g M hi=>?_,fun i j g M M' hi hj=>?_,hc.ex,h.st,fun i g M hi=>?_,fun i g M hi=>?_⟩
 · rcases snoc_at hi with hi|⟨-,e⟩
   · exact hc.blk i g M hi
   · cases e;exact hA
 · rcases snoc_at hi with hi|⟨-,e⟩
   · exact h.ge i g M hi
   · cases e;exact h.sz
 · rcases snoc_at hi with hi|⟨ei,e⟩ <;> rcases snoc_at hj with hj|⟨ej,e'⟩
   · exact h.nd i j g M M' hi hj
   · cases e';exact absurd (h.blk i _ M hi).lt (Nat.lt_irrefl _)
   · cases e;exact absurd (h.blk j _ M' hj).lt (Nat.lt_irrefl _)
   · rw [ei,ej]
 · rcases snoc_at hi with hi|⟨-,e⟩
   · exact h.av i g M hi
   · cases e;exact fun hk=>Nat.lt_irrefl _ (h.st.lt w h.ex _ hk)
 · rcases snoc_at hi with hi|⟨-,e⟩
   · exact h.ns i g M hi
   · cases e;exact hns
theorem setAt'{A:Type}{V:List A}{x y:A}(h:(V.set i x)[j]? = some y):(i=j∧y=x)∨(i≠j∧V[j]? = some y):=by
 by_cases e:i=j
 · subst e;rw [List.getElem?_set_self'] at h;cases hv:V[i]? with
   | none=>rw [hv] at h;cases h
   | some z=>rw [hv] at h;exact .inl ⟨rfl,(Option.some.inj h).symm⟩
 · rw [List.getElem?_set_ne e] at h;exact .inr ⟨e,h⟩
theorem St.put{g:Nat}(h:St N A E V w)(i:Nat)(hi:V[i]? = some (g,L))(hns:∀v∈M,∀t,v≠.string t)(hD:Blk w' g M)(hO:Only (fun k=>k=g) w w'):St N A E (V.set i (g,M)) w':=by
 have old:∀j q R,(V.set i (g,M))[j]? = some (q,R)→∃R',V[j]? = some (q,R'):=fun j q R hj=>by
  rcases setAt' hj with ⟨e,e'⟩|⟨-,hj⟩
  · subst e;cases e';exact⟨L,hi⟩
  · exact⟨R,hj⟩
 refine⟨Nat.le_trans h.sz hO.size,fun j q R hj=>?_,fun j q R hj=>?_,fun j k q R R' hj hk=>?_,h.st.eo g (h.ge i g L hi) (h.av i g L hi) w w' h.ex ((h.blk i g L hi).noStr (h.ns i g L hi)) hO,h.st,fun j q R hj=>?_,fun j q R hj=>?_⟩
 · rcases setAt' hj with ⟨-,e⟩|⟨hn,hj2⟩
   · cases e;exact hD
   · exact (h.blk j q R hj2).only hO fun e=>hn (by subst e;exact h.nd i j _ L R hi hj2)
 · obtain⟨R',hj⟩:=old j q R hj;exact h.ge j q R' hj
 · obtain⟨S,hj⟩:=old j q R hj;obtain⟨S',hk⟩:=old k q R' hk;exact h.nd j k q S S' hj hk
 · obtain⟨R',hj⟩:=old j q R hj;exact h.av j q R' hj
 · rcases setAt' hj with ⟨-,e⟩|⟨-,hj⟩
   · cases e;exact hns
   · exact h.ns j q R hj
theorem St.cut(h:St N A E V w)(n:Nat):St N A E (V.take n) w:=by
 have t:∀(i g:Nat) (L:List Value),(V.take n)[i]? = some (g,L)→V[i]? = some (g,L):=fun i g L hi=>by
  rw [List.getElem?_take] at hi;split at hi
  · exact hi
  · cases hi
 exact⟨h.sz,fun i g L hi=>h.blk i g L (t i g L hi),fun i g L hi=>h.ge i g L (t i g L hi),fun i j g L M hi hj=>h.nd i j g L M (t i g L hi) (t j g M hj),h.ex,h.st,fun i g L hi=>h.av i g L (t i g L hi),fun i g L hi=>h.ns i g L (t i g L hi)⟩
theorem St.more{F:World→Prop}(h:St N A E V w)(hF:F w)(hs:Stays N (fun _=>False) F):St N A (fun u=>E u∧F u) V w :=
 ⟨h.sz,h.blk,h.ge,h.nd,⟨h.ex,hF⟩,h.st.and hs,h.av,h.ns⟩
theorem St.chain{n:Int}{ts:List ByteArray}{x:Value}(h:St N A E V w)(hc:Chain w n ts x):St N A (fun u=>E u∧Chain u n ts x) V w:=h.more hc Stays.chain
theorem St.less{F:World→Prop}(h:St N A (fun u=>E u∧F u) V w)(hs:Stays N A E):St N A E V w:=⟨h.sz,h.blk,h.ge,h.nd,h.ex.1,hs,h.av,h.ns⟩
theorem St.slice(h:St N A E V w)(hb:Below w.heap.size w w')(hy:BytesAt w' sv l)(hf:∀b o n c,sv=.slice (some ⟨b,o,none⟩) n c→w.heap.size≤b):St N (fun k=>A k∨(l≠[]∧sv.ownBlock=some k)) (fun u=>E u∧BytesAt u sv l) V w':=by
 have k:=h.call hb;refine⟨k.sz,k.blk,k.ge,k.nd,⟨k.ex,hy⟩,h.st.both Stays.bytes,fun i g L hi ho=>?_,h.ns⟩;rcases ho with ho|⟨h0,ho⟩
 · exact h.av i g L hi ho
 · obtain⟨a,cap,e,hc⟩:=hy;cases l with
   | nil=>exact h0 rfl
   | cons x r =>
    obtain⟨b,o,ha',-⟩:=hc 0 x rfl;have:=hf b o _ cap (by rw [e,ha']);rw [e,ha'] at ho;cases ho;exact absurd (h.blk i _ L hi).lt (Nat.not_lt.2 this)
theorem St.pick(h:St N A E V w):∀(l:List Nat),l.Nodup→∀{U:List (Nat×List Value)},U.map some=l.map (V[·]?)→St N A E U w:=fun l hl U hu=>by
 have t:∀(i g:Nat) (L:List Value),U[i]? = some (g,L)→∃j,l[i]? = some j∧V[j]? = some (g,L):=fun i g L hi=>by
  have e:(U.map some)[i]? = some (some (g,L)):=by rw [List.getElem?_map,hi];rfl
  rw [hu,List.getElem?_map] at e;cases hj:l[i]? with
  | none=>rw [hj] at e;cases e
  | some j=>rw [hj] at e;exact⟨j,rfl,Option.some.inj e⟩
 refine⟨h.sz,fun i g L hi=>?_,fun i g L hi=>?_,fun i j g L M hi hj=>?_,h.ex,h.st,fun i g L hi=>?_,fun i g L hi=>?_⟩
 · obtain⟨j,-,hj⟩:=t i g L hi;exact h.blk j g L hj
 · obtain⟨j,-,hj⟩:=t i g L hi;exact h.ge j g L hj
 · obtain⟨p,hp,hp'⟩:=t i g L hi;obtain⟨q,hq,hq'⟩:=t j g M hj;have e:=h.nd p q g L M hp' hq';subst e;obtain⟨h1,e1⟩:=List.getElem?_eq_some_iff.1 hp;obtain⟨h2,e2⟩:=List.getElem?_eq_some_iff.1 hq;have hp:=List.pairwise_iff_getElem.1 hl;rcases Nat.lt_trichotomy i j with hlt|rfl|hlt
   · exact absurd (e1.trans e2.symm) (hp i j h1 h2 hlt)
   · rfl
   · exact absurd (e2.trans e1.symm) (hp j i h2 h1 hlt)
 · obtain⟨j,-,hj⟩:=t i g L hi;exact h.av j g L hj
 · obtain⟨j,-,hj⟩:=t i g L hi;exact h.ns j g L hj
theorem St.after{B:Nat→Prop}{F:World→Prop}(h:St N A E V w)(hO:Only A w w')(hf:∀k,B k→A k∨w.heap.size≤k)(hF:F w')(hs:Stays N B F):St N B F V w' :=
 ⟨Nat.le_trans h.sz hO.size,fun i g L hi=>(h.blk i g L hi).only hO (h.av i g L hi),h.ge,h.nd,hF,hs,fun i g L hi hb=>(hf g hb).elim (h.av i g L hi) fun hk=>Nat.lt_irrefl _ (Nat.lt_of_lt_of_le (h.blk i g L hi).lt hk),h.ns⟩
theorem St.dev{F':Nat→Prop}{d d':De.D}(h:St W.heap.size F (fun u=>De.Dv W0 u b F d∧Only S W u∧ErrVar u) V w)(h0:0<W0.heap.size)(hp:0<W.heap.size)(hw:W0.heap.size≤W.heap.size)(hS:∀k,F k→S k∨W.heap.size≤k)(hd:De.Dv W0 w' b F' d')(hO:Only F w w')(hf:∀k,F' k→F k∨w.heap.size≤k):St W.heap.size F' (fun u=>De.Dv W0 u b F' d'∧Only S W u∧ErrVar u) V w' :=
 h.after hO hf ⟨hd,h.ex.2.1.after hO hS,h.ex.2.2.after hO fun hk=>Nat.lt_irrefl _ (Nat.lt_of_lt_of_le h0 (h.ex.1.lt 0 hk).1)⟩ ((Stays.dv hw).and (Stays.only.and (Stays.err hp)))
section
variable {N:Nat} {A:Nat→Prop} {E:World→Prop} {V:List (Nat×List Value)} {P:Program} {ops:Array Oper} {rest:List Oper} {o:Oper} {dst:Option Tmp} {x y:Operand} {t2:TypeId} {pos:String} {after:Array Edge} {guard:Option (Nat×Bool)} {a:Act} {w:World} {Q:Exit→Act→World→Prop}
theorem bx(h:St N A E V w){G:Nat→World→Prop}(k:∀g w',St N A E (V++[(g,cs.toList)]) w'→G g w')(hx:a.eval x=.agg cs:=by rfl)(hw:Region.wanted ⟨dst,.box t x,t2,pos,after,guard⟩ (yielded ops a.tmps)=true:=by rfl)(hns:∀v∈cs.toList,∀t,v≠.string t:=by first|exact Rg.noStr _|exact u8s_noStr _|(intro v hv t;revert v;decide)|(intro v hv t e;subst e;simp at hv))(m:∀g w',G g w'→wpList Tryz.prog ops Q rest (a.put dst (.pointer (some ⟨g,0,none⟩))) w':=by intro g w' h;(try simp only [Act.put,List.setIfInBounds_toArray,List.set_cons_succ,List.set_cons_zero]);exact h):wpList Tryz.prog ops Q (⟨dst,.box t x,t2,pos,after,guard⟩::rest) a w :=
 JV hx hw fun wX hA hb _=>m _ _ (k _ _ (h.new hns hA hb))
theorem al(hz:(Tryz.prog.info? t).bind (·.zero)=some (.agg cs))(h:St N A E V w){G:Nat→World→Prop}(k:∀g w',St N A E (V++[(g,cs.toList)]) w'→G g w')(hw:Region.wanted ⟨dst,.alloc t,t2,pos,after,guard⟩ (yielded ops a.tmps)=true:=by rfl)(hns:∀v∈cs.toList,∀t,v≠.string t:=by first|exact Rg.noStr _|exact u8s_noStr _|(intro v hv t;revert v;decide)|(intro v hv t e;subst e;simp at hv))(m:∀g w',G g w'→wpList Tryz.prog ops Q rest (a.put dst (.pointer (some ⟨g,0,none⟩))) w':=by intro g w' h;(try simp only [Act.put,List.setIfInBounds_toArray,List.set_cons_succ,List.set_cons_zero]);exact h):wpList Tryz.prog ops Q (⟨dst,.alloc t,t2,pos,after,guard⟩::rest) a w :=
 J4 hz hw fun wX hA hb _=>m _ _ (k _ _ (h.new hns hA hb))
theorem sw{g:Nat}(h:St N A E V w)(i:Nat)(hl:L.length=cs.size)(hi:(Tryz.prog.info? t).map (·.size)=some cs.size)(h1:∀v∈cs,v.oneCell'=true){G:World→Prop}(k:∀w',St N A E (V.set i (g,cs.toList)) w'→G w')(hv:V[i]? = some (g,L):=by rfl)(hx:a.eval x=.pointer (some ⟨g,0,none⟩):=by rfl)(hy:a.eval y=.agg cs:=by rfl)(hw:Region.wanted ⟨dst,.store t x y,t2,pos,after,guard⟩ (yielded ops a.tmps)=true:=by rfl)(hns:∀v∈cs.toList,∀t,v≠.string t:=by first|exact Rg.noStr _|exact u8s_noStr _|(intro v hv t;revert v;decide)|(intro v hv t e;subst e;simp at hv))(m:∀w',G w'→wpList Tryz.prog ops Q rest (a.put dst undef) w':=by intro w' h;(try simp only [Act.put,List.setIfInBounds_toArray,List.set_cons_succ,List.set_cons_zero]);exact h):wpList Tryz.prog ops Q (⟨dst,.store t x y,t2,pos,after,guard⟩::rest) a w :=
 J3 (h.blk i g L hv) hl hi h1 hx hy hw fun wX hD hO _=>m _ (k _ (h.put i hv hns hD hO))
theorem cl{f:FuncId}{args:Array Value}(c:Calls Tryz.prog f args w fun e w'=>e=.returned v∧Below w.heap.size w w')(h:St N A E V w){G:World→Prop}(k:∀w',St N A E V w'→G w')(m:(∀w',St N A E V w'→G w')→(Calls Tryz.prog f args w fun e w'=>e=.returned v∧Below w.heap.size w w')→St N A E V w→wpList Tryz.prog ops Q (o::rest) a w:=by intro k c h;refine J0 rfl fun K hK=>?_;go_simp;refine c.mono ?_;rintro e w' ⟨rfl,hb⟩;refine hK _ _ ?_;clear hK;(try simp only [Act.put,List.setIfInBounds_toArray,List.set_cons_succ,List.set_cons_zero]);exact k _ (h.call hb)):wpList Tryz.prog ops Q (o::rest) a w:=m k c h
theorem lc{g:Nat}(h:St N A E V w)(i c':Nat){G:Prop}(k:G)(hc:c=c':=by rfl)(hv:V[i]? = some (g,L):=by rfl)(hl:L[c]? = some v:=by rfl)(hx:a.eval x=.pointer (some ⟨g,c,none⟩):=by rfl)(hw:Region.wanted ⟨dst,.load t x,t2,pos,after,guard⟩ (yielded ops a.tmps)=true:=by rfl)(r:w.cell? ⟨g,c,none⟩=some v→(execOp a.eval ⟨dst,.load t x,t2,pos,after,guard⟩).run Tryz.prog w=.ok (.value v) w:=by intro hq;go_simp)(m:G→wpList Tryz.prog ops Q rest (a.put dst v) w:=by intro h;(try simp only [Act.put,List.setIfInBounds_toArray,List.set_cons_succ,List.set_cons_zero]);exact h):wpList Tryz.prog ops Q (⟨dst,.load t x,t2,pos,after,guard⟩::rest) a w :=
 J7x v hw (r ((h.blk i g L hv).cell hl)) (m k)
end
section
variable {N:Nat} {A:Nat→Prop} {E:World→Prop} {V:List (Nat×List Value)} {ops:Array Oper} {md:Region.Mode} {Q:Exit→Act→World→Prop} {S:World→Prop} {fuel:Nat} {listed:Array Bool} {a:Act} {w:World}
theorem clH(i:Nat){f:FuncId}{args:Array Value}(c:Calls Tryz.prog f args w fun e w'=>e=.returned v∧Below w.heap.size w w')(h:St N A E V w)(hS:∀w',St N A E V w'→S w'){G:World→Prop}(k:∀w',St N A E V w'→G w')(hr:Region.ready md ops listed=[i]:=by kernel_rfl)(hi:ops[i]? = some o:=by rfl)(hw:Region.wanted o (yielded ops a.tmps)=true:=by rfl)(m:∀K:Act→World→Prop,(∀a w,S w→wpAnyH Tryz.prog md ops Q S fuel (listed.setIfInBounds i true) a w→K a w)→(∀w',St N A E V w'→G w')→(Calls Tryz.prog f args w fun e w'=>e=.returned v∧Below w.heap.size w w')→St N A E V w→(∀w',St N A E V w'→S w')→o.wp Tryz.prog a w K Q:=by intro K hK k c h hS;go_simp;refine c.mono ?_;rintro e w' ⟨rfl,hb⟩;refine hK _ _ (hS _ (h.call hb)) ?_;clear hK;(try simp only [Act.put,List.setIfInBounds_toArray,List.set_cons_succ,List.set_cons_zero]);exact k _ (h.call hb)):wpAnyH Tryz.prog md ops Q S (fuel+1) listed a w:=Jiv i hr hi hw fun K hK=>m K hK k c h hS
theorem swO{g:Nat}{x:Operand}(hK:∀a w,S w→wpAnyH Tryz.prog md ops Q S fuel listed a w→K a w)(h:St N A E V w)(i:Nat)(hl:L.length=cs.size)(hi:(Tryz.prog.info? t).map (·.size)=some cs.size)(h1:∀v∈cs,v.oneCell'=true)(hS:∀w',St N A E (V.set i (g,cs.toList)) w'→S w'){G:World→Prop}(k:∀w',St N A E (V.set i (g,cs.toList)) w'→G w')(hv:V[i]? = some (g,L):=by rfl)(ho:o.op=.store t x y:=by rfl)(hd:o.dst=dst:=by rfl)(hx:a.eval x=.pointer (some ⟨g,0,none⟩):=by rfl)(hy:a.eval y=.agg cs:=by rfl)(hns:∀v∈cs.toList,∀t,v≠.string t:=by first|exact Rg.noStr _|exact u8s_noStr _|(intro v hv t;revert v;decide)|(intro v hv t e;subst e;simp at hv))(m:∀w',G w'→wpAnyH Tryz.prog md ops Q S fuel listed (a.put dst undef) w':=by intro w' h;(try simp only [Act.put,List.setIfInBounds_toArray,List.set_cons_succ,List.set_cons_zero]);exact h):o.wp Tryz.prog a w K Q:=by
 subst hd;refine Kp t x y ho g 0 cs hx hy L (h.blk i g L hv) hi (by omega) h1 ?_;rw [JW _ _ hl];have hp:=h.put (w':=w.setRow g cs) (M:=cs.toList) i hv hns ((h.blk i g L hv).row _) ((Only.refl (fun k=>k=g) w).setRow (.inl rfl) _);exact hK _ _ (hS _ hp) (m _ (k _ hp))
end
section
variable {N:Nat} {A:Nat→Prop} {E:World→Prop} {V:List (Nat×List Value)} {ops:Array Oper} {rest:List Oper} {dst:Option Tmp} {x y:Operand} {t2:TypeId} {pos:String} {after:Array Edge} {guard:Option (Nat×Bool)} {a:Act} {w:World} {Q:Exit→Act→World→Prop}
theorem ldR{g:Nat}{r:Rg}(hf:r.Wf)(h:St N A E V w)(i:Nat){G:Prop}(k:G)(hv:V[i]? = some (g,r.cells):=by rfl)(hx:a.eval x=.pointer (some ⟨g,0,none⟩):=by rfl)(hw:Region.wanted ⟨dst,.load 56 x,t2,pos,after,guard⟩ (yielded ops a.tmps)=true:=by rfl)(m:G→wpList Tryz.prog ops Q rest (a.put dst (.agg (r.cells).toArray)) w:=by intro h;(try simp only [Act.put,List.setIfInBounds_toArray,List.set_cons_succ,List.set_cons_zero]);exact h):wpList Tryz.prog ops Q (⟨dst,.load 56 x,t2,pos,after,guard⟩::rest) a w :=
 yq (cs:=(r.cells).toArray) (Blk.all (h.blk i g _ hv) rfl) (by rw [List.size_toArray];exact hf.cells) hx hw (m k)
theorem stR{g:Nat}{r:Rg}(hf:r.Wf)(hM:M.length=16)(h:St N A E V w)(i:Nat){G:World→Prop}(k:∀w',St N A E (V.set i (g,r.cells)) w'→G w')(hv:V[i]? = some (g,M):=by rfl)(hx:a.eval x=.pointer (some ⟨g,0,none⟩):=by rfl)(hy:a.eval y=.agg (r.cells).toArray:=by rfl)(hw:Region.wanted ⟨dst,.store 56 x y,t2,pos,after,guard⟩ (yielded ops a.tmps)=true:=by rfl)(m:∀w',G w'→wpList Tryz.prog ops Q rest (a.put dst undef) w':=by intro w' h;(try simp only [Act.put,List.setIfInBounds_toArray,List.set_cons_succ,List.set_cons_zero]);exact h):wpList Tryz.prog ops Q (⟨dst,.store 56 x y,t2,pos,after,guard⟩::rest) a w :=
 sw (cs:=(r.cells).toArray) h i (by rw [hM];symm;rw [List.size_toArray];exact hf.cells) (by rw [show ((r.cells).toArray:Array Value).size=16 by rw [List.size_toArray];exact hf.cells];exact QZ) (by simpa using Rg.cell_one r) k hv hx hy hw (hns:=Rg.noStr _) (m:=m)
end
section
variable {N:Nat} {A:Nat→Prop} {E:World→Prop} {V:List (Nat×List Value)} {ops:Array Oper} {rest:List Oper} {dst:Option Tmp} {x y:Operand} {t2:TypeId} {pos:String} {after:Array Edge} {guard:Option (Nat×Bool)} {a:Act} {w:World} {Q:Exit→Act→World→Prop}
theorem ldT{g:Nat}(hf:l.length=128)(h:St N A E V w)(i:Nat){G:Prop}(k:G)(hv:V[i]? = some (g,u8s l):=by rfl)(hx:a.eval x=.pointer (some ⟨g,0,none⟩):=by rfl)(hw:Region.wanted ⟨dst,.load 137 x,t2,pos,after,guard⟩ (yielded ops a.tmps)=true:=by rfl)(m:G→wpList Tryz.prog ops Q rest (a.put dst (.agg (u8s l).toArray)) w:=by intro h;(try simp only [Act.put,List.setIfInBounds_toArray,List.set_cons_succ,List.set_cons_zero]);exact h):wpList Tryz.prog ops Q (⟨dst,.load 137 x,t2,pos,after,guard⟩::rest) a w :=
 J4j (cs:=(u8s l).toArray) (Blk.all (h.blk i g _ hv) rfl) (by rw [J2,hf]) hx hw (m k)
theorem stT{g:Nat}(hf:l.length=128)(hM:M.length=128)(h:St N A E V w)(i:Nat){G:World→Prop}(k:∀w',St N A E (V.set i (g,u8s l)) w'→G w')(hv:V[i]? = some (g,M):=by rfl)(hx:a.eval x=.pointer (some ⟨g,0,none⟩):=by rfl)(hy:a.eval y=.agg (u8s l).toArray:=by rfl)(hw:Region.wanted ⟨dst,.store 137 x y,t2,pos,after,guard⟩ (yielded ops a.tmps)=true:=by rfl)(m:∀w',G w'→wpList Tryz.prog ops Q rest (a.put dst undef) w':=by intro w' h;(try simp only [Act.put,List.setIfInBounds_toArray,List.set_cons_succ,List.set_cons_zero]);exact h):wpList Tryz.prog ops Q (⟨dst,.store 137 x y,t2,pos,after,guard⟩::rest) a w :=
 sw (cs:=(u8s l).toArray) h i (by rw [hM];symm;rw [J2,hf]) (by rw [show ((u8s l).toArray:Array Value).size=128 by rw [J2,hf]];exact Yb) (Jj _) k hv hx hy hw (hns:=u8s_noStr _) (m:=m)
end
section
variable {N:Nat} {A:Nat→Prop} {E:World→Prop} {V:List (Nat×List Value)} {ops:Array Oper} {rest:List Oper} {dst:Option Tmp} {x y:Operand} {t2:TypeId} {pos:String} {after:Array Edge} {guard:Option (Nat×Bool)} {a:Act} {w:World} {Q:Exit→Act→World→Prop}
theorem ldS{g:Nat}(hf:l.length=64)(h:St N A E V w)(i:Nat){G:Prop}(k:G)(hv:V[i]? = some (g,u8s l):=by rfl)(hx:a.eval x=.pointer (some ⟨g,0,none⟩):=by rfl)(hw:Region.wanted ⟨dst,.load 36 x,t2,pos,after,guard⟩ (yielded ops a.tmps)=true:=by rfl)(m:G→wpList Tryz.prog ops Q rest (a.put dst (.agg (u8s l).toArray)) w:=by intro h;(try simp only [Act.put,List.setIfInBounds_toArray,List.set_cons_succ,List.set_cons_zero]);exact h):wpList Tryz.prog ops Q (⟨dst,.load 36 x,t2,pos,after,guard⟩::rest) a w :=
 Qc (cs:=(u8s l).toArray) (Blk.all (h.blk i g _ hv) rfl) (by rw [J2,hf]) hx hw (m k)
theorem stS{g:Nat}(hf:l.length=64)(hM:M.length=64)(h:St N A E V w)(i:Nat){G:World→Prop}(k:∀w',St N A E (V.set i (g,u8s l)) w'→G w')(hv:V[i]? = some (g,M):=by rfl)(hx:a.eval x=.pointer (some ⟨g,0,none⟩):=by rfl)(hy:a.eval y=.agg (u8s l).toArray:=by rfl)(hw:Region.wanted ⟨dst,.store 36 x y,t2,pos,after,guard⟩ (yielded ops a.tmps)=true:=by rfl)(m:∀w',G w'→wpList Tryz.prog ops Q rest (a.put dst undef) w':=by intro w' h;(try simp only [Act.put,List.setIfInBounds_toArray,List.set_cons_succ,List.set_cons_zero]);exact h):wpList Tryz.prog ops Q (⟨dst,.store 36 x y,t2,pos,after,guard⟩::rest) a w :=
 sw (cs:=(u8s l).toArray) h i (by rw [hM];symm;rw [J2,hf]) (by rw [show ((u8s l).toArray:Array Value).size=64 by rw [J2,hf]];exact info36) (Jj _) k hv hx hy hw (hns:=u8s_noStr _) (m:=m)
end
theorem qV{fn:Func}{p q:Tmp}{g:Nat}{r:Rg}{R:Ending→World→Prop}(hr:r.Wf)(h:St N A E V w)(i:Nat)(hv:V[i]? = some (g,r.cells))(hR:R (.returned (.tuple #[.agg r.cells.toArray,v])) w)(hf:fn.results=#[.cell p 56,.tmp q]:=by rfl)(hp:a.tmps.getD p undef=.pointer (some ⟨g,0,none⟩):=by rfl)(hq:a.tmps.getD q undef=v:=by rfl)(hd:a.defers=[]:=by rfl):bodyPost Tryz.prog fn R .ret a w :=
 bodyPost_ret (v:=.tuple #[.agg r.cells.toArray,v]) (results_cell_tmp hf _ _ g 0 _ _ _ hp hq Tryz.underlying56 rfl (by rw [List.size_toArray,hr.cells];exact QZ) (Blk.all (h.blk i g _ hv) rfl)) hd hR
theorem Jhx{fn:Func}{p q:Tmp}{g:Nat}{R:Ending→World→Prop}(hl:l.length=128)(h:St N A E V w)(i:Nat)(hv:V[i]? = some (g,u8s l))(hR:R (.returned (.tuple #[.agg (u8s l).toArray,v])) w)(hf:fn.results=#[.cell p 137,.tmp q]:=by rfl)(hp:a.tmps.getD p undef=.pointer (some ⟨g,0,none⟩):=by rfl)(hq:a.tmps.getD q undef=v:=by rfl)(hd:a.defers=[]:=by rfl):bodyPost Tryz.prog fn R .ret a w :=
 bodyPost_ret (v:=.tuple #[.agg (u8s l).toArray,v]) (results_cell_tmp hf _ _ g 0 _ _ _ hp hq Tryz.underlying137 rfl (by rw [J2,hl];exact Yb) (Blk.all (h.blk i g _ hv) rfl)) hd hR
theorem YF{r:Rg}(hg:r.good=true)(hw:r.Wf)(w:World):Calls Tryz.prog 70 #[.agg r.cells.toArray] w (Zr w (.tuple #[.agg (u8s r.enc).toArray,.nilIface])):=by
 have H:=St.start (Stays.below w) Zq;have HG:=Zh hg;clear hg;go_enter Tryz.func70,Tryz.ntmps70;go_upto_region 0 with fail;refine Zl ?_;refine bx H ?_;clear H;intro g1 w1 H;refine al Qb H ?_;clear H;intro g2 w2 H;refine tk (Value.nilIface) ?_;go_upto_region 1 with fail;refine Zl ?_;refine ldR hw H 0 ?_;refine cl (jU HG.out hw _) H ?_;clear H;intro w3 H;refine tk (.nilIface) ?_;go_upto_region 2 with fail;refine Zl ?_;refine tk (.nilIface) ?_;refine tk (.bool false) ?_;go_upto_region 4 with fail;refine Zl ?_;refine ldR hw H 0 ?_;refine cl (Jep r hw HG.out _) H ?_;clear H;intro w4 H;refine stT (enc_length hw.len) (KR (J1 _)) H 1 ?_;clear H;intro w4 H;refine tk (Value.nilIface) ?_;go_wp2_with fail
 exact Jhx (enc_length hw.len) H 1 rfl ⟨rfl,H.ex⟩
theorem J2l{r:Rg}(hg:r.good=false)(hw:r.Wf)(w:World):Calls Tryz.prog 70 #[.agg r.cells.toArray] w fun e w'=>∃T d t ts,e=.returned (.tuple #[.agg (u8s (zeros 128)).toArray,.iface T d])∧Chain w' 11 (t::ts) (.iface T d)∧Below w.heap.size w w':=by
 have H:=St.start (Stays.below w) Zq;have HG:=Zh hg;clear hg;go_enter Tryz.func70,Tryz.ntmps70;go_upto_region 0 with fail;refine Zl ?_;refine bx H ?_;clear H;intro g1 w1 H;refine al Qb H ?_;clear H;intro g2 w2 H;refine tk (Value.nilIface) ?_;go_upto_region 1 with fail;refine Zl ?_;refine ldR hw H 0 ?_;refine J0 rfl fun K hK=>?_;go_simp;refine (J2k HG.out hw _).mono ?_;rintro e w3 ⟨T3,d3,t3,s3,rfl,hc,hb⟩;replace H:=(H.call hb).chain hc;clear hc hb;refine hK _ _ (nm ?_);clear hK K;refine tk (.iface T3 d3) ?_;go_upto_region 2 with fail;refine Zl ?_;refine tk (.iface T3 d3) ?_;refine tk (.bool true) ?_;go_upto_region 3 with fail;refine Zl ?_;refine Ji (Jay _) rfl ?_;refine nm ?_;refine tk (.iface T3 d3) ?_;refine J0 rfl fun K hK=>?_;go_simp;refine (wrap_err _ _ _ _ _ _ H.ex.2).mono ?_;rintro e w4 ⟨T4,d4,t4,s4,rfl,hc,hb⟩;replace H:=(H.call hb).chain hc;clear hc hb;refine hK _ _ (nm ?_);clear hK K;refine stT (J1 _) (KR (J1 _)) H 1 ?_;clear H;intro w4 H;refine tk (.iface T4 d4) ?_;go_wp2_with fail
 refine Jhx (J1 _) H 1 rfl ?_
 first|exact⟨_,_,_,_,rfl,H.ex.2,H.ex.1.1⟩|exact⟨_,_,rfl,⟨_,_,H.ex.2⟩,H.ex.1.1⟩
theorem Zm{r:Rg}(hg:r.good=true)(hw:r.Wf)(w:World)(hev:ErrVar w):Calls Tryz.prog 43 #[.agg r.cells.toArray] w (Zr w (.tuple #[.agg (u8s r.enc).toArray,.int .i64 0])):=by
 have H:=St.start ((Stays.below w).and (Stays.err hev.lt)) ⟨Below.refl _ _,hev⟩;have HG:=Zh hg;clear hg hev;go_enter Tryz.func43,Tryz.ntmps43;go_upto_region 0 with fail;refine Zl ?_;refine bx H ?_;clear H;intro g1 w1 H;refine al Qb H ?_;clear H;intro g2 w2 H;refine tk (.int .i64 0) ?_;go_upto_region 1 with fail;refine Zl ?_;refine ldR hw H 0 ?_;refine cl (YF HG.out hw _) H ?_;clear H;intro w3 H;refine tk (.tuple #[.agg (u8s r.enc).toArray,.nilIface]) ?_;refine tk (.agg (u8s r.enc).toArray) ?_;refine tk (.nilIface) ?_;refine al Qb H ?_;clear H;intro g4 w4 H;refine stT (enc_length hw.len) (KR (J1 _)) H 2 ?_;clear H;intro w4 H;refine tk (.nilIface) ?_;go_upto_region 2 with fail;refine J9 (St w.heap.size (fun _=>False) (fun u=>Below w.heap.size w u∧ErrVar u) [(g4,u8s r.enc)]) (by kernel_rfl) ?_;replace H:=H.drew;refine th 0 11 (.agg (u8s r.enc).toArray) (H.pick [2] (by decide) rfl) ?_ (hy:=fun u hS=>by exact exec_load_at u _ _ 137 _ rfl g4 0 rfl ((u8s r.enc).toArray) _ Tryz.underlying137 rfl (by rw [J2,(enc_length hw.len)];exact Yb) (Blk.all (hS.blk 0 _ _ rfl) rfl));refine th 1 12 (.nilIface) (H.pick [2] (by decide) rfl) ?_;refine clH 2 (of_none _) H (fun _ h=>h.pick [2] (by decide) rfl) ?_;clear H;intro wa H;refine Zo 3 fun K hK=>?_;refine swO (cs:=(u8s r.enc).toArray) (dst:=none) hK H 1 ((KR (J1 128)).trans (by rw [J2,(enc_length hw.len)])) (by rw [J2,(enc_length hw.len)];exact Yb) (Jj _) (fun _ h=>h.pick [2] (by decide) rfl) ?_;clear H hK K;intro wb H;refine th 4 3 (.int .i64 0) (H.pick [2] (by decide) rfl) ?_;refine Zd ?_
 go_wp2_with fail
 exact Jhx (enc_length hw.len) H 1 rfl ⟨rfl,H.ex.1⟩
theorem yu{r:Rg}(hg:r.good=true)(hw:r.Wf)(w:World):Calls Tryz.prog 41 #[.agg r.cells.toArray] w (Zr w (.bool true)):=by
 have H:=St.start (Stays.below w) Zq;have HG:=Zh hg;clear hg;go_enter Tryz.func41,Tryz.ntmps41;go_upto_region 0 with fail;refine Zl ?_;refine bx H ?_;clear H;intro g1 w1 H;refine tk (.bool false) ?_;go_upto_region 1 with fail;refine Zl ?_;refine ldR hw H 0 ?_;refine cl (jU HG.out hw _) H ?_;clear H;intro w2 H;refine tk (.bool true) ?_;refine tk (.bool true) ?_;go_wp2_with fail
 go_ret;exact⟨rfl,H.ex⟩
theorem yv(x:List Int)(hx:Sc2 x)(h:XD x=true)(w:World):Calls Tryz.prog 156 #[.agg (u8s x).toArray] w (Zr w (.tuple #[.agg (readOf x).cells.toArray,.nilIface])):=by
 have H:=St.start (Stays.below w) Zq;have HG:=Zh (jT h).1;have HE:=Zh (jT h).2;clear h;go_enter Tryz.func156,Tryz.ntmps156;go_upto_region 0 with fail;refine Zl ?_;refine bx H ?_;clear H;intro g1 w1 H;refine al Ke H ?_;clear H;intro g2 w2 H;refine tk (Value.nilIface) ?_;go_upto_region 1 with fail;refine Zl ?_;refine ldT hx.length H 0 ?_;refine cl (read_any x hx _) H ?_;clear H;intro w3 H;refine al Ke H ?_;clear H;intro g4 w4 H;refine stR (readOf_wf hx) none_wf.cells H 2 ?_;clear H;intro w4 H;go_upto_region 2 with fail;refine Zl ?_;refine ldR (readOf_wf hx) H 2 ?_;refine cl (YF HG.out (readOf_wf hx) _) H ?_;clear H;intro w5 H;refine tk (.tuple #[.agg (u8s (readOf x).enc).toArray,.nilIface]) ?_;refine tk (.agg (u8s (readOf x).enc).toArray) ?_;refine tk (.nilIface) ?_;refine al Qb H ?_;clear H;intro g6 w6 H;refine stT (enc_length (readOf_wf hx).len) (KR (J1 _)) H 3 ?_;clear H;intro w6 H;refine tk (.nilIface) ?_;go_upto_region 3 with fail;refine Zl ?_;refine tk (.nilIface) ?_;refine tk (.bool false) ?_;go_upto_region 5 with fail;refine Zl ?_;refine ldT (enc_length (readOf_wf hx).len) H 3 ?_;refine ldT hx.length H 0 ?_;refine tk (.bool false) ?_ (hr:=by exact jV (v:=false) (by simp [HE.out]) (enc_length (readOf_wf hx).len) hx.length _ _ _ rfl rfl rfl);go_upto_region 7 with fail;refine Zl ?_;refine ldR (readOf_wf hx) H 2 ?_;refine stR (readOf_wf hx) none_wf.cells H 1 ?_;clear H;intro w6 H;refine tk (Value.nilIface) ?_;go_wp2_with fail
 exact qV (readOf_wf hx) H 1 rfl ⟨rfl,H.ex⟩
theorem yw(x:List Int)(hx:Sc2 x)(hg:(readOf x).good=false)(w:World):Calls Tryz.prog 156 #[.agg (u8s x).toArray] w fun e w'=>∃T d t ts,e=.returned (.tuple #[.agg Rg.none.cells.toArray,.iface T d])∧Chain w' 11 (t::ts) (.iface T d)∧Below w.heap.size w w':=by
 have H:=St.start (Stays.below w) Zq;have HG:=Zh hg;clear hg;go_enter Tryz.func156,Tryz.ntmps156;go_upto_region 0 with fail;refine Zl ?_;refine bx H ?_;clear H;intro g1 w1 H;refine al Ke H ?_;clear H;intro g2 w2 H;refine tk (Value.nilIface) ?_;go_upto_region 1 with fail;refine Zl ?_;refine ldT hx.length H 0 ?_;refine cl (read_any x hx _) H ?_;clear H;intro w3 H;refine al Ke H ?_;clear H;intro g4 w4 H;refine stR (readOf_wf hx) none_wf.cells H 2 ?_;clear H;intro w4 H;go_upto_region 2 with fail;refine Zl ?_;refine ldR (readOf_wf hx) H 2 ?_;refine J0 rfl fun K hK=>?_;go_simp;refine (J2l HG.out (readOf_wf hx) _).mono ?_;rintro e w5 ⟨T5,d5,t5,s5,rfl,hc,hb⟩;replace H:=(H.call hb).chain hc;clear hc hb;refine hK _ _ (nm ?_);clear hK K;refine tk (.tuple #[.agg (u8s (zeros 128)).toArray,.iface T5 d5]) ?_;refine tk (.agg (u8s (zeros 128)).toArray) ?_;refine tk (.iface T5 d5) ?_;refine al Qb H ?_;clear H;intro g6 w6 H;refine stT (J1 _) (KR (J1 _)) H 3 ?_;clear H;intro w6 H;refine tk (.iface T5 d5) ?_;go_upto_region 3 with fail;refine Zl ?_;refine tk (.iface T5 d5) ?_;refine tk (.bool true) ?_;go_upto_region 4 with fail;refine Zl ?_;refine Ji (YS _) rfl ?_;refine nm ?_;refine tk (.iface T5 d5) ?_;refine J0 rfl fun K hK=>?_;go_simp;refine (wrap_err _ _ _ _ _ _ H.ex.2).mono ?_;rintro e w7 ⟨T7,d7,t7,s7,rfl,hc,hb⟩;replace H:=(H.call hb).chain hc;clear hc hb;refine hK _ _ (nm ?_);clear hK K;refine stR none_wf none_wf.cells H 1 ?_;clear H;intro w7 H;refine tk (.iface T7 d7) ?_;go_wp2_with fail
 refine qV none_wf H 1 rfl ?_
 first|exact⟨_,_,_,_,rfl,H.ex.2,H.ex.1.1⟩|exact⟨_,_,rfl,⟨_,_,H.ex.2⟩,H.ex.1.1⟩
theorem J03(x:List Int)(hx:Sc2 x)(hg:(readOf x).good=true)(he:¬(readOf x).enc=x)(w:World):Calls Tryz.prog 156 #[.agg (u8s x).toArray] w fun e w'=>∃T d t ts,e=.returned (.tuple #[.agg Rg.none.cells.toArray,.iface T d])∧Chain w' 11 (t::ts) (.iface T d)∧Below w.heap.size w w':=by
 have H:=St.start (Stays.below w) Zq;have HG:=Zh hg;have HE:=Zh he;clear hg he;go_enter Tryz.func156,Tryz.ntmps156;go_upto_region 0 with fail;refine Zl ?_;refine bx H ?_;clear H;intro g1 w1 H;refine al Ke H ?_;clear H;intro g2 w2 H;refine tk (Value.nilIface) ?_;go_upto_region 1 with fail;refine Zl ?_;refine ldT hx.length H 0 ?_;refine cl (read_any x hx _) H ?_;clear H;intro w3 H;refine al Ke H ?_;clear H;intro g4 w4 H;refine stR (readOf_wf hx) none_wf.cells H 2 ?_;clear H;intro w4 H;go_upto_region 2 with fail;refine Zl ?_;refine ldR (readOf_wf hx) H 2 ?_;refine cl (YF HG.out (readOf_wf hx) _) H ?_;clear H;intro w5 H;refine tk (.tuple #[.agg (u8s (readOf x).enc).toArray,.nilIface]) ?_;refine tk (.agg (u8s (readOf x).enc).toArray) ?_;refine tk (.nilIface) ?_;refine al Qb H ?_;clear H;intro g6 w6 H;refine stT (enc_length (readOf_wf hx).len) (KR (J1 _)) H 3 ?_;clear H;intro w6 H;refine tk (.nilIface) ?_;go_upto_region 3 with fail;refine Zl ?_;refine tk (.nilIface) ?_;refine tk (.bool false) ?_;go_upto_region 5 with fail;refine Zl ?_;refine ldT (enc_length (readOf_wf hx).len) H 3 ?_;refine ldT hx.length H 0 ?_;refine tk (.bool true) ?_ (hr:=by exact jV (v:=true) (by simp [HE.out]) (enc_length (readOf_wf hx).len) hx.length _ _ _ rfl rfl rfl);go_upto_region 6 with fail;refine Zl ?_;refine Ji (YS _) rfl ?_;refine nm ?_;refine J0 rfl fun K hK=>?_;go_simp;refine (new_err _ _).mono ?_;rintro e w7 ⟨T7,d7,t7,s7,rfl,hc,hb⟩;replace H:=(H.call hb).chain hc;clear hc hb;refine hK _ _ (nm ?_);clear hK K;refine stR none_wf none_wf.cells H 1 ?_;clear H;intro w7 H;refine tk (.iface T7 d7) ?_;go_wp2_with fail
 refine qV none_wf H 1 rfl ?_
 first|exact⟨_,_,_,_,rfl,H.ex.2,H.ex.1⟩|exact⟨_,_,rfl,⟨_,_,H.ex.2⟩,H.ex.1⟩
theorem J04(x:List Int)(hx:Sc2 x)(h:XD x=false)(w:World):Calls Tryz.prog 156 #[.agg (u8s x).toArray] w fun e w'=>∃T d t ts,e=.returned (.tuple #[.agg Rg.none.cells.toArray,.iface T d])∧Chain w' 11 (t::ts) (.iface T d)∧Below w.heap.size w w':=by
 cases hg:(readOf x).good with
 | false=>exact yw x hx hg w
 | true=>exact J03 x hx hg (fun he=>by simp [XD,hg,he] at h) w
theorem J2m{x:List Int}(hx:Sc2 x)(h:XD x=true)(w:World)(hev:ErrVar w):Calls Tryz.prog 123 #[.agg (u8s x).toArray] w (Zr w (.tuple #[.agg (readOf x).cells.toArray,.int .i64 0])):=by
 have H:=St.start ((Stays.below w).and (Stays.err hev.lt)) ⟨Below.refl _ _,hev⟩;have HG:=Zh h;clear h hev;go_enter Tryz.func123,Tryz.ntmps123;go_upto_region 0 with fail;refine Zl ?_;refine bx H ?_;clear H;intro g1 w1 H;refine al Ke H ?_;clear H;intro g2 w2 H;refine tk (.int .i64 0) ?_;go_upto_region 1 with fail;refine Zl ?_;refine ldT hx.length H 0 ?_;refine cl (yv x hx HG.out _) H ?_;clear H;intro w3 H;refine tk (.tuple #[.agg (readOf x).cells.toArray,.nilIface]) ?_;refine tk (.agg (readOf x).cells.toArray) ?_;refine tk (.nilIface) ?_;refine al Ke H ?_;clear H;intro g4 w4 H;refine stR (readOf_wf hx) none_wf.cells H 2 ?_;clear H;intro w4 H;refine tk (.nilIface) ?_;go_upto_region 2 with fail;refine J9 (St w.heap.size (fun _=>False) (fun u=>Below w.heap.size w u∧ErrVar u) [(g4,(readOf x).cells)]) (by kernel_rfl) ?_;replace H:=H.drew;refine th 0 11 (.agg (readOf x).cells.toArray) (H.pick [2] (by decide) rfl) ?_ (hy:=fun u hS=>by exact exec_load_at u _ _ 56 _ rfl g4 0 rfl ((readOf x).cells.toArray) _ Tryz.underlying56 rfl (by rw [List.size_toArray,(readOf_wf hx).cells];exact QZ) (Blk.all (hS.blk 0 _ _ rfl) rfl));refine th 1 12 (.nilIface) (H.pick [2] (by decide) rfl) ?_;refine clH 2 (of_none _) H (fun _ h=>h.pick [2] (by decide) rfl) ?_;clear H;intro wa H;refine Zo 3 fun K hK=>?_;refine swO (cs:=(readOf x).cells.toArray) (dst:=none) hK H 1 (none_wf.cells.trans (by rw [List.size_toArray,(readOf_wf hx).cells])) (by rw [List.size_toArray,(readOf_wf hx).cells];exact QZ) (by simpa using Rg.cell_one _) (fun _ h=>h.pick [2] (by decide) rfl) ?_;clear H hK K;intro wb H;refine th 4 3 (.int .i64 0) (H.pick [2] (by decide) rfl) ?_;refine Zd ?_
 go_wp2_with fail
 exact qV (readOf_wf hx) H 1 rfl ⟨rfl,H.ex.1⟩
theorem J6p{x:List Int}(hx:Sc2 x)(h:XD x=false)(w:World)(hev:ErrVar w):Calls Tryz.prog 123 #[.agg (u8s x).toArray] w (Zr w (.tuple #[.agg Rg.none.cells.toArray,.int .i64 11])):=by
 have H:=St.start ((Stays.below w).and (Stays.err hev.lt)) ⟨Below.refl _ _,hev⟩;have HG:=Zh h;clear h hev;go_enter Tryz.func123,Tryz.ntmps123;go_upto_region 0 with fail;refine Zl ?_;refine bx H ?_;clear H;intro g1 w1 H;refine al Ke H ?_;clear H;intro g2 w2 H;refine tk (.int .i64 0) ?_;go_upto_region 1 with fail;refine Zl ?_;refine ldT hx.length H 0 ?_;refine J0 rfl fun K hK=>?_;go_simp;refine (J04 x hx HG.out _).mono ?_;rintro e w3 ⟨T3,d3,t3,s3,rfl,hc,hb⟩;replace H:=(H.call hb).chain hc;clear hc hb;refine hK _ _ (nm ?_);clear hK K;refine tk (.tuple #[.agg Rg.none.cells.toArray,.iface T3 d3]) ?_;refine tk (.agg Rg.none.cells.toArray) ?_;refine tk (.iface T3 d3) ?_;refine al Ke H ?_;clear H;intro g4 w4 H;refine stR none_wf none_wf.cells H 2 ?_;clear H;intro w4 H;refine tk (.iface T3 d3) ?_;go_upto_region 2 with fail;refine J9 (St w.heap.size (fun _=>False) (fun u=>(Below w.heap.size w u∧ErrVar u)∧Chain u 11 (t3::s3) (.iface T3 d3)) [(g4,Rg.none.cells)]) (by kernel_rfl) ?_;replace H:=H.drew;refine th 0 11 (.agg Rg.none.cells.toArray) (H.pick [2] (by decide) rfl) ?_ (hy:=fun u hS=>by exact exec_load_at u _ _ 56 _ rfl g4 0 rfl (Rg.none.cells.toArray) _ Tryz.underlying56 rfl (by rw [List.size_toArray,none_wf.cells];exact QZ) (Blk.all (hS.blk 0 _ _ rfl) rfl));refine th 1 12 (.iface T3 d3) (H.pick [2] (by decide) rfl) ?_;refine clH 2 (Jhw _ _ _ _ _ H.ex.1.2 H.ex.2) H (fun _ h=>h.pick [2] (by decide) rfl) ?_;clear H;intro wa H;refine Zo 3 fun K hK=>?_;refine swO (cs:=Rg.none.cells.toArray) (dst:=none) hK H 1 (none_wf.cells.trans (by rw [List.size_toArray,none_wf.cells])) (by rw [List.size_toArray,none_wf.cells];exact QZ) (by simpa using Rg.cell_one _) (fun _ h=>h.pick [2] (by decide) rfl) ?_;clear H hK K;intro wb H;refine th 4 3 (.int .i64 11) (H.pick [2] (by decide) rfl) ?_;refine Zd ?_
 go_wp2_with fail
 exact qV none_wf H 1 rfl ⟨rfl,H.ex.1.1⟩
def _root_.Go.Proofs.YtdbfmikeaoaebaaGreatDoor.Pl.Gm.tot(g:Gm):Int:=if g.Ok then 4+g.s*g.l else 0
theorem _root_.Go.Proofs.YtdbfmikeaoaebaaGreatDoor.Pl.Gm.tot_yes{g:Gm}(h:g.Ok):g.tot=4+g.s*g.l:=if_pos h
theorem _root_.Go.Proofs.YtdbfmikeaoaebaaGreatDoor.Pl.Gm.tot_no{g:Gm}(h:¬g.Ok):g.tot=0:=if_neg h
theorem _root_.Go.Proofs.YtdbfmikeaoaebaaGreatDoor.Pl.Gm.tot_good{r:Rg}(h:r.good=true):148≤r.g.tot:=by
 have hg:=(qr.1 h).1;rw [Gm.tot_yes hg];obtain⟨_,⟨h3,h4⟩,⟨h5,h6⟩,_⟩:=hg;have:(6:Int)*24≤r.g.s*r.g.l:=Int.mul_le_mul h3 h5 (by omega) (by omega);omega
theorem J6q(g:Gm)(w:World):Calls Tryz.prog 57 #[g.v] w (Zr w (.int .i64 g.tot)):=by
 by_cases h:g.Ok
 · rw [Gm.tot_yes h];exact QH g h w
 · rw [Gm.tot_no h];exact J84 g h w
theorem Xr(r:Rg)(hw:r.Wf)(w:World):Calls Tryz.prog 44 #[.agg r.cells.toArray] w (Zr w (.int .i64 (r.gen%2))):=by
 have HBL:Hid (Below w.heap.size w w):=Zh Zq;have HWF:=Zh hw;have HTM:Hid (r.gen.tmod 2=r.gen%2):=Zh (Int.tmod_eq_emod_of_nonneg hw.gen.1);have HW1:Hid (IntKind.u32.wrap (r.gen%2)=r.gen%2):=Zh (kL (by omega) (by omega));have HW2:Hid (IntKind.i64.wrap (r.gen%2)=r.gen%2):=Zh (JQ (by omega) (by omega));clear hw;go_enter Tryz.func44,Tryz.ntmps44;go_upto_region 0 with fail;refine Zl ?_;refine JV (cs:=r.cells.toArray) rfl rfl ?_;intro w1 hA hb hl;refine nm ?_;have HBLn:=Zh (HBL.trans (hb.mono HBL.size));have F2:Hid (Blk w1 w.heap.size (r.cells)):=Zh (by first|exact hA|simpa using hA);have GEg0:=Zh HBL.size;clear HBL;have HBL:=HBLn;clear HBLn;clear hA hb hl;refine tk (.int .i64 0) ?_;go_upto_region 1 with fail;refine Zl ?_;refine tk (.pointer (some ⟨w.heap.size,0,none⟩)) ?_;refine tk (.int .u32 r.gen) ?_ (hr:=by (have hc:=F2.cell (i:=0) (v:=.int .u32 r.gen) rfl;go_simp));refine tk (.int .u32 (r.gen%2)) ?_ (hr:=by go_simp;simp [HTM.out,HW1.out]);refine tk (.int .i64 (r.gen%2)) ?_ (hr:=by go_simp;simp [HW2.out]);refine tk (.int .i64 (r.gen%2)) ?_;go_wp2_with fail
 go_ret;exact⟨rfl,HBL.out⟩
theorem has_any(r:Rg)(hw:r.Wf)(w:World){d:De.D}(h:De.Dv W0 w b F d):Calls Tryz.prog 42 #[.pointer (some ⟨b,0,none⟩),.agg r.cells.toArray] w fun e w'=>e=.returned (.bool (decide (r.g.tot≤(d.S.length:Int))))∧Below w.heap.size w w':=by
 have HBL:Hid (Below w.heap.size w w):=Zh Zq;have HWF:=Zh hw;have HTT:=Zh fun w=>J6q r.g w;have HD:=Zh h;clear hw h;go_enter Tryz.func42,Tryz.ntmps42;go_upto_region 0 with fail;refine Zl ?_;refine JV (cs:=r.cells.toArray) rfl rfl ?_;intro w1 hA hb hl;refine nm ?_;have NFg0:=Zh (fun hk=>Nat.lt_irrefl _ (HD.lt w.heap.size hk).2);have GDg0:=Zh HD.out.2.size;have HBLn:=Zh (HBL.trans (hb.mono HBL.size));have HDn:=Zh (HD.below hb);have F2:Hid (Blk w1 w.heap.size (r.cells)):=Zh (by first|exact hA|simpa using hA);have GEg0:=Zh HBL.size;clear HBL HD;have HBL:=HBLn;have HD:=HDn;clear HBLn HDn;clear hA hb hl;refine tk (.bool false) ?_;go_upto_region 1 with fail;have F20:=F2;refine J9 (fun wq=>Below w1.heap.size w1 wq) (by kernel_rfl) ?_;have F2n:=Zh (Blk.drew F2.out);have HBLn:=Zh (HBL.drew);have HSS:=Zh (Below.drew (Below.refl w1.heap.size w1));have hb:Below w1.heap.size w1 w1.drew:=Below.drew Zq;have HDn:=Zh (HD.below hb);clear hb;clear HBL F2 HD;have HBL:=HBLn;have F2:=F2n;have HD:=HDn;clear HBLn F2n HDn;have HSZ:Hid (w1.drew.heap.size=w1.heap.size):=Zh rfl;generalize w1.drew=w3 at *;refine th 0 5 (.pointer (some ⟨b,0,none⟩)) HSS.out ?_;refine th 2 7 (.pointer (some ⟨w.heap.size,1,none⟩)) HSS.out ?_;refine th 3 8 (.agg #[.int .i64 r.p,.int .i64 r.s,.int .i64 r.l,.int .i64 r.f]) HSS.out ?_ (hy:=fun wq hS=>by exact exec_load_at wq _ _ 23 _ rfl (w.heap.size) (1) rfl (#[.int .i64 r.p,.int .i64 r.s,.int .i64 r.l,.int .i64 r.f]) _ Tryz.underlying23 rfl (info23) (Rg.at24 (F20.below hS F20.lt)));refine Zo 1 fun K hK=>?_;go_simp;refine (De.jy HD.out).mono ?_;rintro e w4 ⟨rfl,rfl⟩;refine hK _ _ HSS.out (nm ?_);clear hK K;refine Zo 4 fun K hK=>?_;go_simp;refine (HTT.out _).mono ?_;rintro e w5 ⟨rfl,hb⟩;have HSSn:=Zh (HSS.trans (hb.mono HSS.size));clear HSS;have HSS:=HSSn;clear HSSn;have HBLn:=Zh (HBL.trans (hb.mono HBL.size));have F2n:=Zh (F2.below hb F2.lt);have HDn:=Zh (HD.below hb);clear HBL F2 HD;have HBL:=HBLn;have F2:=F2n;have HD:=HDn;clear HBLn F2n HDn;clear hb;refine hK _ _ HSS.out (nm ?_);clear hK K;refine th 5 10 (.bool (decide (r.g.tot≤(d.S.length:Int)))) HSS.out ?_;refine th 6 4 (.bool (decide (r.g.tot≤(d.S.length:Int)))) HSS.out ?_;refine Zd ?_
 go_wp2_with fail
 go_ret;exact⟨rfl,HBL.out⟩
theorem Jjf{a:List Int}(ha:a.length=64):(Jt (u8s (zeros 128)) 0 (u8s a).toArray).toList=u8s (a++zeros 64):=by
 simp [Jt,zeros,ha]
theorem Jjg{a c x:List Int}(ha:a.length=64)(hc:c.length=64)(hx:a++c=x):(Jt (u8s (a++zeros 64)) 64 (u8s c).toArray).toList=u8s x:=by
 subst hx;simp [Jt,zeros,ha,hc]
def Jjh(a x:List Int)(k:Nat):List Int:=if k=0 then zeros 128 else if k=1 then a++zeros 64 else x
def XE(len n:Int)(x:List Int):Option Rg:=if XD x=true∧(readOf x).gen%2=n∧(readOf x).g.tot≤len then some (readOf x) else none
theorem stP{x:Operand}{t2:TypeId}{after:Array Edge}{g off:Nat}{M:List Int}(hf:l.length=64)(hs:(Jt L off (u8s l).toArray).toList=u8s M)(hfit:off+64≤L.length)(h:St N A E V w)(i:Nat){G:World→Prop}(k:∀w',St N A E (V.set i (g,u8s M)) w'→G w')(hv:V[i]? = some (g,L):=by rfl)(hx:a.eval x=.pointer (some ⟨g,off,none⟩):=by rfl)(hy:a.eval y=.agg (u8s l).toArray:=by rfl)(hw:Region.wanted ⟨dst,.store 36 x y,t2,pos,after,guard⟩ (yielded ops a.tmps)=true:=by rfl)(m:∀w',G w'→wpList Tryz.prog ops Q rest (a.put dst undef) w':=by intro w' h;(try simp only [Act.put,List.setIfInBounds_toArray,List.set_cons_succ,List.set_cons_zero]);exact h):wpList Tryz.prog ops Q (⟨dst,.store 36 x y,t2,pos,after,guard⟩::rest) a w :=
 ZD (off:=off) (h.blk i g L hv) (by rw [J2,hf];exact info36) (by rw [J2,hf];exact hfit) (Jj _) hx hy hw fun wX hD hO _=>m _ (k _ (h.put i hv (u8s_noStr _) (by rw [←hs];exact hD) hO))
theorem Jb9(s:ByteArray)(w:World):Calls Tryz.prog 56 #[.int .i64 13,.string s] w fun e w'=>∃T d t ts,e=.returned (.iface T d)∧Chain w' 13 (t::ts) (.iface T d)∧Below w.heap.size w w' :=
 (Qf 13 s w rfl).mono fun e w' ⟨v,he,hc,hb⟩=>by
  obtain⟨T,d,rfl⟩:=hc.shape;exact⟨T,d,_,_,he,hc,hb⟩
def J05(q:Option Rg)(e:Ending)(w w':World):Prop:=match q with
 | some r=>e=.returned (.tuple #[.agg r.cells.toArray,.nilIface])∧Below w.heap.size w w'
 | none=>∃T d t ts,e=.returned (.tuple #[.agg Rg.none.cells.toArray,.iface T d])∧Chain w' 13 (t::ts) (.iface T d)∧Below w.heap.size w w'
theorem j6{len n:Int}{x:List Int}(h:¬(XD x=true∧(readOf x).gen%2=n∧(readOf x).g.tot≤len)):XE len n x=none:=if_neg h
theorem xy{len n:Int}{x:List Int}(h:XD x=true∧(readOf x).gen%2=n∧(readOf x).g.tot≤len):XE len n x=some (readOf x):=if_pos h
theorem j7(a c x:List Int)(ha:a.length=64)(hc:c.length=64)(hxe:a++c=x)(hx:Sc2 x)(n:Int)(hn:n=0∨n=1)(w:World)(hev:ErrVar w){d:De.D}(h:De.Dv W0 w b F d)(hLn:d.L.length≤1000000)(hr0:d.read (n*2)=(u8s a).toArray)(hr1:d.read (n*2+1)=(u8s c).toArray):Calls Tryz.prog 96 #[.pointer (some ⟨b,0,none⟩),.int .i64 n] w fun e w'=>J05 (XE d.S.length n x) e w w':=by
 have H:=St.start ((Stays.dv h.2.size).and ((Stays.below w).and (Stays.err hev.lt))) ⟨h,Below.refl _ _,hev⟩;have HM:Hid (IntKind.i64.wrap (n*2)=n*2):=Zh (JQ (by omega) (by omega));have HM1:Hid (IntKind.i64.wrap (n*2+1)=n*2+1):=Zh (JQ (by omega) (by omega));have HA:=Zh (Jjf ha);have HC:=Zh (Jjg ha hc hxe);have HLA:=Zh ha;have HLC:=Zh hc;have HX:=Zh hx;have HLN:=Zh hLn;have HR0:=Zh hr0;have HR1:=Zh hr1;obtain⟨RA,hra⟩:∃q,XE d.S.length n x=q:=⟨_,rfl⟩
 have HRA:=Zh hra;rw [hra];clear ha hc hxe hx hn hev h hLn hr0 hr1 hra;go_enter Tryz.func96,Tryz.ntmps96;go_upto_region 0 with fail;refine Zl ?_;refine al Ke H ?_;clear H;intro g1 w1 H;refine tk (Value.nilIface) ?_;go_upto_region 1 with fail;refine Zl ?_;refine al Qb H ?_;clear H;intro g2 w2 H;go_upto_region 2 with fail;refine Zl ?_;refine tk (.int .i64 0) ?_;go_wp2_with fail
 go_loopg [10] 2 (fun q i wr=>∃k:Nat,2-k≤q∧k≤2∧i=.int .i64 k∧St w.heap.size F (fun u=>De.Dv W0 u b F d∧Below w.heap.size w u∧ErrVar u) [(g1,Rg.none.cells),(g2,u8s (Jjh a x k))] wr)
 case atStart=>exact⟨0,by omega,by omega,rfl,H⟩
 case round =>
  clear H;obtain⟨k,hq,hk,rfl,H⟩:=hrel;rcases (show k=0∨k=1∨k=2 by omega) with rfl|rfl|rfl
  · replace H:St w.heap.size _ _ [(g1,Rg.none.cells),(g2,u8s (zeros 128))] wr:=H;go_upto_region 5 with fail;refine Zl ?_;refine tk (.int .i64 0) ?_;refine tk (.pointer (some ⟨b,0,none⟩)) ?_;refine tk (.int .i64 n) ?_;refine tk (.int .i64 (n*2)) ?_ (hr:=by go_simp;simp [HM.out]);refine tk (.int .i64 0) ?_;refine tk (.int .i64 (n*2)) ?_ (hr:=by go_simp;simp [HM.out]);refine cl (by have:=De.kx H.ex.1 HLN.out (n*2);rw [HR0.out] at this;exact this) H ?_;clear H;intro w3 H;refine tk (.tuple #[.agg (u8s a).toArray,.int .i64 (d.readE (n*2))]) ?_;refine tk (.agg (u8s a).toArray) ?_;refine tk (.int .i64 (d.readE (n*2))) ?_;refine tk (.pointer (some ⟨g2,0,none⟩)) ?_;refine stP HLA.out HA.out (by simp [HLA.out,J1]) H 1 ?_;clear H;intro w3 H;go_wp2_with fail
    go_roundg (2-(0+1))
    case measure=>omega
    case rel=>exact⟨1,by omega,by omega,by go_num,H⟩
  · replace H:St w.heap.size _ _ [(g1,Rg.none.cells),(g2,u8s (a++zeros 64))] wr:=H;go_upto_region 5 with fail;refine Zl ?_;refine tk (.int .i64 1) ?_;refine tk (.pointer (some ⟨b,0,none⟩)) ?_;refine tk (.int .i64 n) ?_;refine tk (.int .i64 (n*2)) ?_ (hr:=by go_simp;simp [HM.out]);refine tk (.int .i64 1) ?_;refine tk (.int .i64 (n*2+1)) ?_ (hr:=by go_simp;simp [HM1.out]);refine cl (by have:=De.kx H.ex.1 HLN.out (n*2+1);rw [HR1.out] at this;exact this) H ?_;clear H;intro w3 H;refine tk (.tuple #[.agg (u8s c).toArray,.int .i64 (d.readE (n*2+1))]) ?_;refine tk (.agg (u8s c).toArray) ?_;refine tk (.int .i64 (d.readE (n*2+1))) ?_;refine tk (.pointer (some ⟨g2,64,none⟩)) ?_;refine stP HLC.out HC.out (by simp [HLA.out,J1]) H 1 ?_;clear H;intro w3 H;go_wp2_with fail
    go_roundg (2-(1+1))
    case measure=>omega
    case rel=>exact⟨2,by omega,by omega,by go_num,H⟩
  · replace H:St w.heap.size _ _ [(g1,Rg.none.cells),(g2,u8s x)] wr:=H;cases hq:XD x
    · have HQ:=Zh hq;clear hq;go_upto_region 7 with fail;refine Zl ?_;refine ldT HX.length H 1 ?_;refine cl (J6p HX.out HQ.out _ H.ex.2.2) H ?_;clear H;intro w3 H;refine tk (.tuple #[.agg Rg.none.cells.toArray,.int .i64 11]) ?_;refine tk (.agg Rg.none.cells.toArray) ?_;refine tk (.int .i64 11) ?_;refine al Ke H ?_;clear H;intro g4 w4 H;refine stR none_wf none_wf.cells H 2 ?_;clear H;intro w4 H;refine tk (.int .i64 11) ?_;go_upto_region 8 with fail;refine Zl ?_;refine tk (.int .i64 11) ?_;refine tk (.bool true) ?_;refine tk (.bool true) ?_;go_upto_region 9 with fail;refine Zl ?_;refine Ji (YS _) rfl ?_;refine nm ?_;refine J0 rfl fun K hK=>?_;go_simp;refine (Jb9 _ _).mono ?_;rintro e w5 ⟨T5,d5,t5,s5,rfl,hc,hb⟩;replace H:=(H.call hb).chain hc;clear hc hb;refine hK _ _ (nm ?_);clear hK K;refine stR none_wf none_wf.cells H 0 ?_;clear H;intro w5 H;refine tk (.iface T5 d5) ?_;go_wp2_with fail
      exact qV none_wf H 0 rfl (by rw [←HRA.out,j6 (fun h=>by rw [HQ.out] at h;cases h.1)];exact⟨_,_,_,_,rfl,H.ex.2,H.ex.1.2.1⟩)
    · have HQ:=Zh hq;clear hq;go_upto_region 7 with fail;refine Zl ?_;refine ldT HX.length H 1 ?_;refine cl (J2m HX.out HQ.out _ H.ex.2.2) H ?_;clear H;intro w3 H;refine tk (.tuple #[.agg (readOf x).cells.toArray,.int .i64 0]) ?_;refine tk (.agg (readOf x).cells.toArray) ?_;refine tk (.int .i64 0) ?_;refine al Ke H ?_;clear H;intro g4 w4 H;refine stR (readOf_wf HX.out) none_wf.cells H 2 ?_;clear H;intro w4 H;refine tk (.int .i64 0) ?_;go_upto_region 8 with fail;refine Zl ?_;refine tk (.int .i64 0) ?_;refine tk (.bool false) ?_;refine tk (.bool false) ?_;refine Zn ?_
      by_cases hne:(readOf x).gen%2=n
      · have HNE:=Zh hne;clear hne;go_upto_region 10 with fail;refine Zl ?_;refine ldR (readOf_wf HX.out) H 2 ?_;refine cl (Xr _ (readOf_wf HX.out) _) H ?_;clear H;intro w5 H;refine tk (.int .i64 n) ?_;refine tk (.bool false) ?_ (hr:=by go_simp;simp [HNE.out]);refine tk (.bool false) ?_;refine Zn ?_
        by_cases htl:(readOf x).g.tot≤(d.S.length:Int)
        · have HTL:=Zh htl;clear htl;go_upto_region 12 with fail;refine Zl ?_;refine tk (.pointer (some ⟨b,0,none⟩)) ?_;refine ldR (readOf_wf HX.out) H 2 ?_;refine cl (has_any _ (readOf_wf HX.out) _ H.ex.1) H ?_;clear H;intro w6 H;refine tk (.bool false) ?_ (hr:=by go_simp;(have hq:=HTL.out;omega));refine tk (.bool false) ?_;go_upto_region 14 with fail;refine Zl ?_;refine ldR (readOf_wf HX.out) H 2 ?_;refine stR (readOf_wf HX.out) none_wf.cells H 0 ?_;clear H;intro w6 H;refine tk (Value.nilIface) ?_;go_wp2_with fail
          exact qV (readOf_wf HX.out) H 0 rfl (by rw [←HRA.out,xy ⟨HQ.out,HNE.out,HTL.out⟩];exact⟨rfl,H.ex.2.1⟩)
        · have HTL:=Zh htl;clear htl;go_upto_region 12 with fail;refine Zl ?_;refine tk (.pointer (some ⟨b,0,none⟩)) ?_;refine ldR (readOf_wf HX.out) H 2 ?_;refine cl (has_any _ (readOf_wf HX.out) _ H.ex.1) H ?_;clear H;intro w6 H;refine tk (.bool true) ?_ (hr:=by go_simp;(have hq:=HTL.out;omega));refine tk (.bool true) ?_;go_upto_region 13 with fail;refine Zl ?_;refine Ji (YS _) rfl ?_;refine nm ?_;refine J0 rfl fun K hK=>?_;go_simp;refine (Jb9 _ _).mono ?_;rintro e w7 ⟨T7,d7,t7,s7,rfl,hc,hb⟩;replace H:=(H.call hb).chain hc;clear hc hb;refine hK _ _ (nm ?_);clear hK K;refine stR none_wf none_wf.cells H 0 ?_;clear H;intro w7 H;refine tk (.iface T7 d7) ?_;go_wp2_with fail
          exact qV none_wf H 0 rfl (by rw [←HRA.out,j6 (fun h=>by have h1:=HTL.out;have h2:=h.2.2;omega)];exact⟨_,_,_,_,rfl,H.ex.2,H.ex.1.2.1⟩)
      · have HNE:=Zh hne;clear hne;go_upto_region 10 with fail;refine Zl ?_;refine ldR (readOf_wf HX.out) H 2 ?_;refine cl (Xr _ (readOf_wf HX.out) _) H ?_;clear H;intro w5 H;refine tk (.int .i64 n) ?_;refine tk (.bool true) ?_ (hr:=by go_simp;simp [HNE.out]);refine tk (.bool true) ?_;go_upto_region 11 with fail;refine Zl ?_;refine Ji (YS _) rfl ?_;refine nm ?_;refine J0 rfl fun K hK=>?_;go_simp;refine (Jb9 _ _).mono ?_;rintro e w6 ⟨T6,d6,t6,s6,rfl,hc,hb⟩;replace H:=(H.call hb).chain hc;clear hc hb;refine hK _ _ (nm ?_);clear hK K;refine stR none_wf none_wf.cells H 0 ?_;clear H;intro w6 H;refine tk (.iface T6 d6) ?_;go_wp2_with fail
        exact qV none_wf H 0 rfl (by rw [←HRA.out,j6 (fun h=>by exact HNE.out h.2.1)];exact⟨_,_,_,_,rfl,H.ex.2,H.ex.1.2.1⟩)
def at3{A:Type}(a b c:A)(k:Nat):A:=if k=0 then a else if k=1 then b else c
def pick:Option Rg→Option Rg→Option Rg
 | none,q=>q
 | some r,none=>some r
 | some r,some q=>if r.gen<q.gen then some q else some r
def Xs(len:Int)(x y:List Int):Option Rg:=pick (XE len 0 x) (XE len 1 y)
def J6r(q:Option Rg):Rg:=q.getD Rg.none
def qv(q:Option Rg):Int:=if q.isSome then 0 else 13
theorem J6s(p:Option Rg):pick p none=p:=by cases p <;> rfl
theorem J4k{r q:Rg}(h:r.gen<q.gen):pick (some r) (some q)=some q:=if_pos h
theorem xz{r q:Rg}(h:¬r.gen<q.gen):pick (some r) (some q)=some r:=if_neg h
theorem Jex{p:Option Rg}(h:∀r,p=some r→r.Wf):(J6r p).Wf:=by
 cases p with
 | none=>exact none_wf
 | some r=>exact h r rfl
theorem Jey{p q:Option Rg}(h:∀r,p=some r→r.Wf)(k:∀r,q=some r→r.Wf):∀r,pick p q=some r→r.Wf:=fun r e=>by
 cases p with
 | none=>exact k r e
 | some a=>cases q with
  | none=>exact h r e
  | some b =>
   by_cases hc:a.gen<b.gen
   · rw [J4k hc] at e;exact k r e
   · rw [xz hc] at e;exact h r e
theorem J6t(p q:Option Rg)(hp:∀r,p=some r→r.Wf)(hq:∀r,q=some r→r.Wf)(w:World)(hev:ErrVar w){d:De.D}(h:De.Dv W0 w b F d)(h0:(∀w',ErrVar w'→De.Dv W0 w' b F d→Calls Tryz.prog 96 #[.pointer (some ⟨b,0,none⟩),.int .i64 0] w' (fun e w2=>J05 p e w' w2)))(h1:(∀w',ErrVar w'→De.Dv W0 w' b F d→Calls Tryz.prog 96 #[.pointer (some ⟨b,0,none⟩),.int .i64 1] w' (fun e w2=>J05 q e w' w2))):Calls Tryz.prog 66 #[.pointer (some ⟨b,0,none⟩)] w (Zr w (.tuple #[.agg (J6r (pick p q)).cells.toArray,.int .i64 (qv (pick p q))])):=by
 have H:=St.start ((Stays.dv h.2.size).and ((Stays.below w).and (Stays.err hev.lt))) ⟨h,Below.refl _ _,hev⟩;have HST:=Zh H.st;have HR0:=Zh h0;have HR1:=Zh h1;have HWP:=Zh hp;have HWQ:=Zh hq;have HBW:=Zh (Jex (Jey hp hq));obtain⟨PQ,hpq⟩:∃z,pick p q=z:=⟨_,rfl⟩
 rw [hpq] at HBW ⊢;have HPQ:=Zh hpq;clear hev h h0 h1 hp hq hpq;go_enter Tryz.func66,Tryz.ntmps66;go_upto_region 0 with fail;refine Zl ?_;refine al Ke H ?_;clear H;intro g1 w1 H;refine tk (.int .i64 0) ?_;go_upto_region 1 with fail;refine Zl ?_;refine tk (.pointer (some ⟨b,0,none⟩)) ?_;refine tk (.bool false) ?_;go_upto_region 3 with fail;refine Zl ?_;refine Ji (YS _) rfl ?_;refine nm ?_;refine al Ke H ?_;clear H;intro g2 w2 H;refine stR none_wf none_wf.cells H 1 ?_;clear H;intro w2 H;refine tk (.int .i64 13) ?_;go_upto_region 4 with fail;refine Zl ?_;refine tk (.int .i64 0) ?_;go_wp2_with fail
 go_loopg [13,5] 2 (fun n i s wr=>∃k:Nat,2-k≤n∧k≤2∧i=.int .i64 k∧s=.int .i64 (qv (at3 none p PQ k))∧St w.heap.size F (fun u=>De.Dv W0 u b F d∧Below w.heap.size w u∧ErrVar u) [(g1,Rg.none.cells),(g2,(J6r (at3 none p PQ k)).cells)] wr)
 case atStart=>exact⟨0,by omega,by omega,rfl,rfl,H⟩
 case round =>
  clear H;obtain⟨k,hn,hk,rfl,hs,H⟩:=hrel;rcases (show k=0∨k=1∨k=2 by omega) with rfl|rfl|rfl
  · rcases p with _|r
    · have h5:_=Value.int .i64 13:=hs;subst h5;clear hs;replace H:St w.heap.size _ _ [(g1,Rg.none.cells),(g2,Rg.none.cells)] wr:=H;go_upto_region 7 with fail;refine Zl ?_;refine tk (.pointer (some ⟨b,0,none⟩)) ?_;refine tk (.int .i64 0) ?_;refine J0 rfl fun K hK=>?_;go_simp;refine (HR0.out _ H.ex.2.2 H.ex.1).mono ?_;rintro e w3 ⟨T3,d3,t3,s3,rfl,hc,hb⟩;replace H:=(H.call hb).chain hc;clear hc hb;refine hK _ _ (nm ?_);clear hK K;refine tk (.tuple #[.agg Rg.none.cells.toArray,.iface T3 d3]) ?_;refine tk (.agg Rg.none.cells.toArray) ?_;refine tk (.iface T3 d3) ?_;refine al Ke H ?_;clear H;intro g4 w4 H;refine stR none_wf none_wf.cells H 2 ?_;clear H;intro w4 H;refine tk (.iface T3 d3) ?_;go_upto_region 8 with fail;refine Zl ?_;refine tk (.iface T3 d3) ?_;refine cl (YE 13 13 true rfl _ _ _ _ H.ex.2) H ?_;clear H;intro w5 H;go_wp2_with fail
      go_roundg (2-(0+1))
      case measure=>omega
      case rel=>exact⟨1,by omega,by omega,by go_num,rfl,(H.less HST.out).cut 2⟩
    · have HW:=HWP.out r rfl;have h5:_=Value.int .i64 13:=hs;subst h5;clear hs;replace H:St w.heap.size _ _ [(g1,Rg.none.cells),(g2,Rg.none.cells)] wr:=H;go_upto_region 7 with fail;refine Zl ?_;refine tk (.pointer (some ⟨b,0,none⟩)) ?_;refine tk (.int .i64 0) ?_;refine cl (HR0.out _ H.ex.2.2 H.ex.1) H ?_;clear H;intro w3 H;refine tk (.tuple #[.agg r.cells.toArray,.nilIface]) ?_;refine tk (.agg r.cells.toArray) ?_;refine tk (.nilIface) ?_;refine al Ke H ?_;clear H;intro g4 w4 H;refine stR HW none_wf.cells H 2 ?_;clear H;intro w4 H;refine tk (.nilIface) ?_;go_upto_region 8 with fail;refine Zl ?_;refine tk (.nilIface) ?_;refine cl (YD 13 false rfl _) H ?_;clear H;intro w5 H;go_upto_region 9 with fail;refine Zl ?_;refine tk (.int .i64 13) ?_;refine tk (.bool true) ?_;refine tk (.bool true) ?_;refine ps ?_;refine ps ?_;refine ps ?_;refine ps ?_;refine ps ?_;refine tk (.bool true) ?_;go_upto_region 10 with fail;refine Zl ?_;refine ldR HW H 2 ?_;refine stR HW none_wf.cells H 1 ?_;clear H;intro w5 H;refine tk (.int .i64 0) ?_;go_wp2_with fail
      go_roundg (2-(0+1))
      case measure=>omega
      case rel=>exact⟨1,by omega,by omega,by go_num,rfl,H.cut 2⟩
  · rcases q with _|s
    · have hz:PQ=p:=HPQ.symm.trans (J6s p);subst hz;have h5:_=Value.int .i64 (qv PQ):=hs;subst h5;clear hs;replace H:St w.heap.size _ _ [(g1,Rg.none.cells),(g2,(J6r PQ).cells)] wr:=H;go_upto_region 7 with fail;refine Zl ?_;refine tk (.pointer (some ⟨b,0,none⟩)) ?_;refine tk (.int .i64 1) ?_;refine J0 rfl fun K hK=>?_;go_simp;refine (HR1.out _ H.ex.2.2 H.ex.1).mono ?_;rintro e w3 ⟨T3,d3,t3,s3,rfl,hc,hb⟩;replace H:=(H.call hb).chain hc;clear hc hb;refine hK _ _ (nm ?_);clear hK K;refine tk (.tuple #[.agg Rg.none.cells.toArray,.iface T3 d3]) ?_;refine tk (.agg Rg.none.cells.toArray) ?_;refine tk (.iface T3 d3) ?_;refine al Ke H ?_;clear H;intro g4 w4 H;refine stR none_wf none_wf.cells H 2 ?_;clear H;intro w4 H;refine tk (.iface T3 d3) ?_;go_upto_region 8 with fail;refine Zl ?_;refine tk (.iface T3 d3) ?_;refine cl (YE 13 13 true rfl _ _ _ _ H.ex.2) H ?_;clear H;intro w5 H;go_wp2_with fail
      go_roundg (2-(1+1))
      case measure=>omega
      case rel=>exact⟨2,by omega,by omega,by go_num,rfl,(H.less HST.out).cut 2⟩
    · have HV:=HWQ.out s rfl;rcases p with _|r
      · have hz:PQ=some s:=HPQ.symm;subst hz;have h5:_=Value.int .i64 13:=hs;subst h5;clear hs;replace H:St w.heap.size _ _ [(g1,Rg.none.cells),(g2,Rg.none.cells)] wr:=H;go_upto_region 7 with fail;refine Zl ?_;refine tk (.pointer (some ⟨b,0,none⟩)) ?_;refine tk (.int .i64 1) ?_;refine cl (HR1.out _ H.ex.2.2 H.ex.1) H ?_;clear H;intro w3 H;refine tk (.tuple #[.agg s.cells.toArray,.nilIface]) ?_;refine tk (.agg s.cells.toArray) ?_;refine tk (.nilIface) ?_;refine al Ke H ?_;clear H;intro g4 w4 H;refine stR HV none_wf.cells H 2 ?_;clear H;intro w4 H;refine tk (.nilIface) ?_;go_upto_region 8 with fail;refine Zl ?_;refine tk (.nilIface) ?_;refine cl (YD 13 false rfl _) H ?_;clear H;intro w5 H;go_upto_region 9 with fail;refine Zl ?_;refine tk (.int .i64 13) ?_;refine tk (.bool true) ?_;refine tk (.bool true) ?_;refine ps ?_;refine ps ?_;refine ps ?_;refine ps ?_;refine ps ?_;refine tk (.bool true) ?_;go_upto_region 10 with fail;refine Zl ?_;refine ldR HV H 2 ?_;refine stR HV none_wf.cells H 1 ?_;clear H;intro w5 H;refine tk (.int .i64 0) ?_;go_wp2_with fail
        go_roundg (2-(1+1))
        case measure=>omega
        case rel=>exact⟨2,by omega,by omega,by go_num,rfl,H.cut 2⟩
      · have HW:=HWP.out r rfl
        by_cases hc:r.gen<s.gen
        · have hz:PQ=some s:=HPQ.symm.trans (J4k hc);subst hz;have HC:=Zh hc;clear hc;have h5:_=Value.int .i64 0:=hs;subst h5;clear hs;replace H:St w.heap.size _ _ [(g1,Rg.none.cells),(g2,r.cells)] wr:=H;go_upto_region 7 with fail;refine Zl ?_;refine tk (.pointer (some ⟨b,0,none⟩)) ?_;refine tk (.int .i64 1) ?_;refine cl (HR1.out _ H.ex.2.2 H.ex.1) H ?_;clear H;intro w3 H;refine tk (.tuple #[.agg s.cells.toArray,.nilIface]) ?_;refine tk (.agg s.cells.toArray) ?_;refine tk (.nilIface) ?_;refine al Ke H ?_;clear H;intro g4 w4 H;refine stR HV none_wf.cells H 2 ?_;clear H;intro w4 H;refine tk (.nilIface) ?_;go_upto_region 8 with fail;refine Zl ?_;refine tk (.nilIface) ?_;refine cl (YD 13 false rfl _) H ?_;clear H;intro w5 H;go_upto_region 9 with fail;refine Zl ?_;refine tk (.int .i64 0) ?_;refine tk (.bool false) ?_;refine tk (.bool false) ?_;refine tk (.pointer (some ⟨g4,0,none⟩)) ?_;refine lc H 2 0 ?_;refine tk (.pointer (some ⟨g2,0,none⟩)) ?_;refine lc H 1 0 ?_;refine tk (.bool true) ?_ (hr:=by go_simp;simp only [HC.out,decide_true]);refine tk (.bool true) ?_;go_upto_region 10 with fail;refine Zl ?_;refine ldR HV H 2 ?_;refine stR HV HW.cells H 1 ?_;clear H;intro w5 H;refine tk (.int .i64 0) ?_;go_wp2_with fail
          go_roundg (2-(1+1))
          case measure=>omega
          case rel=>exact⟨2,by omega,by omega,by go_num,rfl,H.cut 2⟩
        · have hz:PQ=some r:=HPQ.symm.trans (xz hc);subst hz;have HC:=Zh hc;clear hc;have h5:_=Value.int .i64 0:=hs;subst h5;clear hs;replace H:St w.heap.size _ _ [(g1,Rg.none.cells),(g2,r.cells)] wr:=H;go_upto_region 7 with fail;refine Zl ?_;refine tk (.pointer (some ⟨b,0,none⟩)) ?_;refine tk (.int .i64 1) ?_;refine cl (HR1.out _ H.ex.2.2 H.ex.1) H ?_;clear H;intro w3 H;refine tk (.tuple #[.agg s.cells.toArray,.nilIface]) ?_;refine tk (.agg s.cells.toArray) ?_;refine tk (.nilIface) ?_;refine al Ke H ?_;clear H;intro g4 w4 H;refine stR HV none_wf.cells H 2 ?_;clear H;intro w4 H;refine tk (.nilIface) ?_;go_upto_region 8 with fail;refine Zl ?_;refine tk (.nilIface) ?_;refine cl (YD 13 false rfl _) H ?_;clear H;intro w5 H;go_upto_region 9 with fail;refine Zl ?_;refine tk (.int .i64 0) ?_;refine tk (.bool false) ?_;refine tk (.bool false) ?_;refine tk (.pointer (some ⟨g4,0,none⟩)) ?_;refine lc H 2 0 ?_;refine tk (.pointer (some ⟨g2,0,none⟩)) ?_;refine lc H 1 0 ?_;refine tk (.bool false) ?_ (hr:=by go_simp;(have hq:=HC.out;omega));refine tk (.bool false) ?_;go_wp2_with fail
          go_roundg (2-(1+1))
          case measure=>omega
          case rel=>exact⟨2,by omega,by omega,by go_num,rfl,H.cut 2⟩
  · have h5:_=Value.int .i64 (qv PQ):=hs;subst h5;clear hs;replace H:St w.heap.size _ _ [(g1,Rg.none.cells),(g2,(J6r PQ).cells)] wr:=H;go_upto_region 12 with fail;refine Zl ?_;refine ldR HBW.out H 1 ?_;refine tk (.int .i64 (qv PQ)) ?_;refine stR HBW.out none_wf.cells H 0 ?_;clear H;intro w2 H;refine tk (.int .i64 (qv PQ)) ?_;go_wp2_with fail
    exact qV HBW.out H 0 rfl ⟨rfl,H.ex.2.1⟩
theorem j8{len n:Int}{x:List Int}(hx:Sc2 x){r:Rg}(h:XE len n x=some r):r.Wf:=by
 unfold XE at h;split at h
 · cases h;exact readOf_wf hx
 · cases h
structure Four (d:De.D) (x y:List Int):Prop where
 sx:Sc2 x
 sy:Sc2 y
 r0:d.read 0=(u8s (x.take 64)).toArray
 r1:d.read 1=(u8s (x.drop 64)).toArray
 r2:d.read 2=(u8s (y.take 64)).toArray
 r3:d.read 3=(u8s (y.drop 64)).toArray
theorem J2n(w:World)(hev:ErrVar w){d:De.D}(h:De.Dv W0 w b F d)(hLn:d.L.length≤1000000){x y:List Int}(hf:Four d x y):Calls Tryz.prog 66 #[.pointer (some ⟨b,0,none⟩)] w (Zr w (.tuple #[.agg (J6r (Xs d.S.length x y)).cells.toArray,.int .i64 (qv (Xs d.S.length x y))])):=by
 have h0:∀w',ErrVar w'→De.Dv W0 w' b F d→Calls Tryz.prog 96 #[.pointer (some ⟨b,0,none⟩),.int .i64 0] w' (fun e w2=>J05 (XE d.S.length 0 x) e w' w2):=fun w' h1 h2 =>
  j7 (x.take 64) (x.drop 64) x (by simp [hf.sx.length]) (by simp [hf.sx.length]) (List.take_append_drop _ _) hf.sx 0 (.inl rfl) w' h1 h2 hLn hf.r0 hf.r1
 have h1:∀w',ErrVar w'→De.Dv W0 w' b F d→Calls Tryz.prog 96 #[.pointer (some ⟨b,0,none⟩),.int .i64 1] w' (fun e w2=>J05 (XE d.S.length 1 y) e w' w2):=fun w' h1 h2 =>
  j7 (y.take 64) (y.drop 64) y (by simp [hf.sy.length]) (by simp [hf.sy.length]) (List.take_append_drop _ _) hf.sy 1 (.inr rfl) w' h1 h2 hLn hf.r2 hf.r3
 have g0:=fun r=>j8 (len:=d.S.length) (n:=0) hf.sx (r:=r);have g1:=fun r=>j8 (len:=d.S.length) (n:=1) hf.sy (r:=r);exact J6t _ _ (fun r=>j8 hf.sx) (fun r=>j8 hf.sy) w hev h h0 h1
theorem qW(w:World)(x:List Int)(hx:x.length=128)(j:Nat)(hj:j<2):(Instr.index 137 (.agg (u8s x).toArray) (.int .i64 j)).run Tryz.prog w=.ok (.agg (u8s ((x.drop (64*j)).take 64)).toArray) w:=by
 obtain⟨i,hi,hs⟩:=KV info36;have hagg:(isAgg 36).run Tryz.prog w=.ok true w:=by
  unfold isAgg;rw [Sem.run_bind,run_underlying Tryz.underlying36 w];rfl
 have ee:(u8s x).toArray.extract (j*64) (j*64+64)=(u8s ((x.drop (64*j)).take 64)).toArray:=by
  simp [List.map_take,List.map_drop,Nat.mul_comm]
 have part:(Go.part 36 (u8s x).toArray (j*64)).run Tryz.prog w=.ok (.agg (u8s ((x.drop (64*j)).take 64)).toArray) w:=by
  unfold Go.part;simp only [Sem.run_bind,hagg,Result.andThen_ok,if_true,sizeOf,typeInfo,hi,hs,run_program,Sem.run_pure,ee]
 have h1:(0:Int)≤(j:Int)∧(j:Int)<(2:Int):=by omega
 generalize (u8s ((x.drop (64*j)).take 64)).toArray=y at *;generalize (u8s x).toArray=z at *;simp [Instr.index,run_underlying Tryz.underlying137,asIntOf,h1,sizeOf,typeInfo,hi,hs,part,Sem.run_bind];intro hnj;omega
theorem Q4(x:List Int)(hx:x.length=128)(j:Nat)(hj:j<2)(ev:Operand→Value)(o:Oper)(w:World){p q:Operand}(ho:o.op=.index 137 p q)(hp:ev p=.agg (u8s x).toArray)(hq:ev q=.int .i64 j):(execOp ev o).run Tryz.prog w=.ok (.value (.agg (u8s ((x.drop (64*j)).take 64)).toArray)) w:=by
 unfold execOp;simp only [ho,hp,hq,Sem.run_bind,qW w x hx j hj,Result.andThen_ok,Sem.run_pure]
def _root_.Go.Proofs.YtdbfmikeaoaebaaGreatDoor.De.D.put(d:De.D)(r:Rg):De.D :=
 if d.F=0 then d.write (r.gen%2*2) (u8s r.s0).toArray
 else if (d.write (r.gen%2*2) (u8s r.s0).toArray).F=0 then (d.write (r.gen%2*2) (u8s r.s0).toArray).write (r.gen%2*2+1) (u8s r.s1).toArray
 else ((d.write (r.gen%2*2) (u8s r.s0).toArray).write (r.gen%2*2+1) (u8s r.s1).toArray).flush
def _root_.Go.Proofs.YtdbfmikeaoaebaaGreatDoor.De.D.putE(d:De.D)(r:Rg):Int :=
 if d.F=0 then 12 else if (d.write (r.gen%2*2) (u8s r.s0).toArray).F=0 then 12 else ((d.write (r.gen%2*2) (u8s r.s0).toArray).write (r.gen%2*2+1) (u8s r.s1).toArray).flushE
theorem j9(h:l.length=64):De.Sec (u8s l).toArray:=⟨by simp [h],fun v hv=>by
 simp only [List.mem_toArray,List.mem_map] at hv
 obtain⟨m,_,rfl⟩:=hv
 exact⟨m,rfl⟩⟩
theorem _root_.Go.Proofs.YtdbfmikeaoaebaaGreatDoor.De.D.writeE_of{d:De.D}{i:Int}(h:d.has i=true):d.writeE i=if d.F=0 then 12 else 0:=if_pos h
theorem _root_.Go.Proofs.YtdbfmikeaoaebaaGreatDoor.De.D.write_S(d:De.D)(i:Int)(s:Array Value):(d.write i s).S=d.S:=by
 unfold De.D.write;split
 · split <;> rfl
 · rfl
theorem _root_.Go.Proofs.YtdbfmikeaoaebaaGreatDoor.De.D.write_T(d:De.D)(i:Int)(s:Array Value):(d.write i s).T≤d.T+1:=by
 unfold De.D.write;split
 · split <;> simp
 · simp
theorem _root_.Go.Proofs.YtdbfmikeaoaebaaGreatDoor.De.D.write_L(d:De.D)(i:Int)(s:Array Value):(d.write i s).L.length≤d.L.length+1:=by
 unfold De.D.write;split
 · split <;> simp
 · simp
theorem xA{T U:Nat→Prop}{A:Nat}(h:∀k,T k→S k∨A≤k)(hf:∀k,U k→T k∨n≤k)(hn:A≤n):∀k,U k→S k∨A≤k:=Only.foot h hf hn
theorem J2o(r:Rg)(hw:r.Wf)(hg:r.good=true)(w:World){d:De.D}(h:De.Dv W0 w b F d)(hev:ErrVar w)(h0:0<W0.heap.size)(ht:r.g.tot≤(d.S.length:Int))(hT:d.T≤900000)(hLn:d.L.length≤900000)(n:Int)(hn:r.gen%2=n)(hF:d.F=0):Calls Tryz.prog 19 #[.pointer (some ⟨b,0,none⟩),.agg r.cells.toArray] w (De.After W0 w b F (.int .i64 12) (d.write (n*2) (u8s r.s0).toArray)):=by
 have H:=St.start ((Stays.dv h.2.size).and (Stays.only.and (Stays.err hev.lt))) ⟨h,Only.refl F _,hev⟩;have HG:=Zh hg;have HTL:=Zh ht;have hlt:148≤(d.S.length:Int):=Int.le_trans (Gm.tot_good hg) ht;have HNB:Hid (∀w,Calls Tryz.prog 44 #[.agg r.cells.toArray] w fun e w'=>e=.returned (.int .i64 n)∧Below w.heap.size w w'):=Zh fun w=>hn ▸ Xr r hw w;have h01:0≤n∧n≤1:=by omega
 have HM:Hid (IntKind.i64.wrap (n*2)=n*2):=Zh (JQ (by omega) (by omega));have HM1:Hid (IntKind.i64.wrap (n*2+1)=n*2+1):=Zh (JQ (by omega) (by omega));have HE0:Hid (d.writeE (n*2)=12):=Zh (by rw [De.D.writeE_of (by simp [De.D.has];omega),if_pos hF]);have HS0:Hid ((r.enc.drop (64*0)).take 64=r.s0):=Zh (by simp [Rg.enc,K0]);have HS1:Hid ((r.enc.drop (64*1)).take 64=r.s1):=Zh (by have h1:=KT hw.len;simp [Rg.enc,K0];rw [List.take_of_length_le (by omega)]);have HB:Hid (((d.write (n*2) (u8s r.s0).toArray).T≤900001∧(d.write (n*2) (u8s r.s0).toArray).L.length≤900001)∧((d.write (n*2) (u8s r.s0).toArray).write (n*2+1) (u8s r.s1).toArray).T≤900002∧((d.write (n*2) (u8s r.s0).toArray).write (n*2+1) (u8s r.s1).toArray).L.length≤900002):=Zh (by
  have:=De.D.write_T d (n*2) (u8s r.s0).toArray
  have:=De.D.write_L d (n*2) (u8s r.s0).toArray
  have:=De.D.write_T (d.write (n*2) (u8s r.s0).toArray) (n*2+1) (u8s r.s1).toArray
  have:=De.D.write_L (d.write (n*2) (u8s r.s0).toArray) (n*2+1) (u8s r.s1).toArray
  omega)
 have HT:=Zh hT;have HLN:=Zh hLn;have HFF:Hid (∀k,F k→F k∨w.heap.size≤k):=Zh fun _ h=>.inl h;have HZ:=Zh (⟨h0,hev.lt,h.2.size⟩:0<W0.heap.size∧0<w.heap.size∧W0.heap.size≤w.heap.size);clear h hg hev h0 ht hlt hT hLn hn h01 hF;go_enter Tryz.func19,Tryz.ntmps19;go_upto_region 0 with fail;refine Zl ?_;refine bx H ?_;clear H;intro g1 w1 H;refine tk (.int .i64 0) ?_;go_upto_region 1 with fail;refine Zl ?_;refine ldR hw H 0 ?_;refine cl (yu HG.out hw _) H ?_;clear H;intro w2 H;refine tk (.bool false) ?_;refine tk (.bool false) ?_;refine tk (.pointer (some ⟨b,0,none⟩)) ?_;refine ldR hw H 0 ?_;refine cl (has_any _ hw _ H.ex.1) H ?_;clear H;intro w3 H;refine tk (.bool false) ?_ (hr:=by go_simp;(have hq:=HTL.out;omega));refine tk (.bool false) ?_;go_upto_region 3 with fail;refine Zl ?_;refine ldR hw H 0 ?_;refine cl (Zm HG.out hw _ H.ex.2.2) H ?_;clear H;intro w4 H;refine tk (.tuple #[.agg (u8s r.enc).toArray,.int .i64 0]) ?_;refine tk (.agg (u8s r.enc).toArray) ?_;refine tk (.int .i64 0) ?_;refine al Qb H ?_;clear H;intro g5 w5 H;refine stT (enc_length hw.len) (KR (J1 _)) H 1 ?_;clear H;intro w5 H;refine tk (.int .i64 0) ?_;go_upto_region 4 with fail;refine Zl ?_;refine ldR hw H 0 ?_;refine cl (HNB.out _) H ?_;clear H;intro w6 H;refine tk (.int .i64 (n*2)) ?_ (hr:=by go_simp;simp [HM.out]);refine tk (.int .i64 (n*2)) ?_;go_upto_region 5 with fail;refine Zl ?_;refine ldT (enc_length hw.len) H 1 ?_;refine tk (.int .i64 0) ?_;go_wp2_with fail
 go_loopg [29] 2 (fun q i wr=>∃(k:Nat) (Fk:Nat→Prop),2-k≤q∧k≤0∧i=.int .i64 k∧(∀k,Fk k→F k∨w.heap.size≤k)∧St w.heap.size Fk (fun u=>De.Dv W0 u b Fk (at3 d (d.write (n*2) (u8s r.s0).toArray) ((d.write (n*2) (u8s r.s0).toArray).write (n*2+1) (u8s r.s1).toArray) k)∧Only F w u∧ErrVar u) [] wr)
 case atStart=>exact⟨0,F,by omega,by omega,rfl,HFF.out,H.cut 0⟩
 case round =>
  clear H HFF;obtain⟨k,Fk,hq,hk,rfl,hff,H⟩:=hrel;have HFF:=Zh hff;clear hff;obtain rfl:k=0:=by omega
  · replace H:St w.heap.size Fk (fun u=>De.Dv W0 u b Fk d∧Only F w u∧ErrVar u) [] wr:=H;go_upto_region 7 with fail;refine Zl ?_;refine tk (.int .i64 (((0:Nat):Int))) ?_;refine tk (.agg (u8s r.s0).toArray) ?_ (hr:=by have hqq:=Q4 r.enc (enc_length hw.len) 0 (by decide);rw [HS0.out] at hqq;exact hqq _ _ _ rfl rfl rfl);refine al Kd H ?_;clear H;intro g10 w10 H;refine tk (.int .i64 (((0:Nat):Int))) ?_;refine stS (K0 r) (KR (J1 _)) H 0 ?_;clear H;intro w10 H;go_upto_region 8 with fail;refine Zl ?_;refine tk (.pointer (some ⟨b,0,none⟩)) ?_;refine tk (.int .i64 (n*2)) ?_;refine tk (.int .i64 (((0:Nat):Int))) ?_;refine tk (.int .i64 (n*2)) ?_ (hr:=by go_simp;simp [HM.out]);refine ldS (K0 r) H 0 ?_;refine J0 rfl fun K hK=>?_;go_simp;refine (De.Xo H.ex.1 (by have:=HT.out;omega) (by have:=HLN.out;omega) (n*2) _ (j9 (K0 r))).mono ?_;rintro e w11 ⟨Fn,rfl,hd,hO,hf⟩;rw [HE0.out];have H0:=H.sz;replace H:=H.dev HZ.out.1 HZ.out.2.1 HZ.out.2.2 HFF.out hd hO hf;replace HFF:=Zh (xA HFF.out hf H0);clear hd hO hf;refine hK _ _ (nm ?_);clear hK K;refine tk (.int .i64 12) ?_;go_upto_region 9 with fail;refine Zl ?_;refine tk (.int .i64 12) ?_;refine tk (.bool true) ?_;go_upto_region 10 with fail;refine Zl ?_;refine tk (.int .i64 12) ?_;refine tk (.int .i64 12) ?_;go_wp2_with fail
    go_ret;exact⟨Fn,rfl,H.ex.1,H.ex.2.1,HFF.out⟩
theorem J2p(r:Rg)(hw:r.Wf)(hg:r.good=true)(w:World){d:De.D}(h:De.Dv W0 w b F d)(hev:ErrVar w)(h0:0<W0.heap.size)(ht:r.g.tot≤(d.S.length:Int))(hT:d.T≤900000)(hLn:d.L.length≤900000)(n:Int)(hn:r.gen%2=n)(hF:d.F≠0)(hF1:(d.write (n*2) (u8s r.s0).toArray).F=0):Calls Tryz.prog 19 #[.pointer (some ⟨b,0,none⟩),.agg r.cells.toArray] w (De.After W0 w b F (.int .i64 12) ((d.write (n*2) (u8s r.s0).toArray).write (n*2+1) (u8s r.s1).toArray)):=by
 have H:=St.start ((Stays.dv h.2.size).and (Stays.only.and (Stays.err hev.lt))) ⟨h,Only.refl F _,hev⟩;have HG:=Zh hg;have HTL:=Zh ht;have hlt:148≤(d.S.length:Int):=Int.le_trans (Gm.tot_good hg) ht;have HNB:Hid (∀w,Calls Tryz.prog 44 #[.agg r.cells.toArray] w fun e w'=>e=.returned (.int .i64 n)∧Below w.heap.size w w'):=Zh fun w=>hn ▸ Xr r hw w;have h01:0≤n∧n≤1:=by omega
 have HM:Hid (IntKind.i64.wrap (n*2)=n*2):=Zh (JQ (by omega) (by omega));have HM1:Hid (IntKind.i64.wrap (n*2+1)=n*2+1):=Zh (JQ (by omega) (by omega));have HE0:Hid (d.writeE (n*2)=0):=Zh (by rw [De.D.writeE_of (by simp [De.D.has];omega),if_neg hF]);have HE1:Hid ((d.write (n*2) (u8s r.s0).toArray).writeE (n*2+1)=12):=Zh (by rw [De.D.writeE_of (by simp only [De.D.has,De.D.write_S];simp;omega),if_pos hF1]);have HS0:Hid ((r.enc.drop (64*0)).take 64=r.s0):=Zh (by simp [Rg.enc,K0]);have HS1:Hid ((r.enc.drop (64*1)).take 64=r.s1):=Zh (by have h1:=KT hw.len;simp [Rg.enc,K0];rw [List.take_of_length_le (by omega)]);have HB:Hid (((d.write (n*2) (u8s r.s0).toArray).T≤900001∧(d.write (n*2) (u8s r.s0).toArray).L.length≤900001)∧((d.write (n*2) (u8s r.s0).toArray).write (n*2+1) (u8s r.s1).toArray).T≤900002∧((d.write (n*2) (u8s r.s0).toArray).write (n*2+1) (u8s r.s1).toArray).L.length≤900002):=Zh (by
  have:=De.D.write_T d (n*2) (u8s r.s0).toArray
  have:=De.D.write_L d (n*2) (u8s r.s0).toArray
  have:=De.D.write_T (d.write (n*2) (u8s r.s0).toArray) (n*2+1) (u8s r.s1).toArray
  have:=De.D.write_L (d.write (n*2) (u8s r.s0).toArray) (n*2+1) (u8s r.s1).toArray
  omega)
 have HT:=Zh hT;have HLN:=Zh hLn;have HFF:Hid (∀k,F k→F k∨w.heap.size≤k):=Zh fun _ h=>.inl h;have HZ:=Zh (⟨h0,hev.lt,h.2.size⟩:0<W0.heap.size∧0<w.heap.size∧W0.heap.size≤w.heap.size);clear h hg hev h0 ht hlt hT hLn hn h01 hF hF1;go_enter Tryz.func19,Tryz.ntmps19;go_upto_region 0 with fail;refine Zl ?_;refine bx H ?_;clear H;intro g1 w1 H;refine tk (.int .i64 0) ?_;go_upto_region 1 with fail;refine Zl ?_;refine ldR hw H 0 ?_;refine cl (yu HG.out hw _) H ?_;clear H;intro w2 H;refine tk (.bool false) ?_;refine tk (.bool false) ?_;refine tk (.pointer (some ⟨b,0,none⟩)) ?_;refine ldR hw H 0 ?_;refine cl (has_any _ hw _ H.ex.1) H ?_;clear H;intro w3 H;refine tk (.bool false) ?_ (hr:=by go_simp;(have hq:=HTL.out;omega));refine tk (.bool false) ?_;go_upto_region 3 with fail;refine Zl ?_;refine ldR hw H 0 ?_;refine cl (Zm HG.out hw _ H.ex.2.2) H ?_;clear H;intro w4 H;refine tk (.tuple #[.agg (u8s r.enc).toArray,.int .i64 0]) ?_;refine tk (.agg (u8s r.enc).toArray) ?_;refine tk (.int .i64 0) ?_;refine al Qb H ?_;clear H;intro g5 w5 H;refine stT (enc_length hw.len) (KR (J1 _)) H 1 ?_;clear H;intro w5 H;refine tk (.int .i64 0) ?_;go_upto_region 4 with fail;refine Zl ?_;refine ldR hw H 0 ?_;refine cl (HNB.out _) H ?_;clear H;intro w6 H;refine tk (.int .i64 (n*2)) ?_ (hr:=by go_simp;simp [HM.out]);refine tk (.int .i64 (n*2)) ?_;go_upto_region 5 with fail;refine Zl ?_;refine ldT (enc_length hw.len) H 1 ?_;refine tk (.int .i64 0) ?_;go_wp2_with fail
 go_loopg [29] 2 (fun q i wr=>∃(k:Nat) (Fk:Nat→Prop),2-k≤q∧k≤1∧i=.int .i64 k∧(∀k,Fk k→F k∨w.heap.size≤k)∧St w.heap.size Fk (fun u=>De.Dv W0 u b Fk (at3 d (d.write (n*2) (u8s r.s0).toArray) ((d.write (n*2) (u8s r.s0).toArray).write (n*2+1) (u8s r.s1).toArray) k)∧Only F w u∧ErrVar u) [] wr)
 case atStart=>exact⟨0,F,by omega,by omega,rfl,HFF.out,H.cut 0⟩
 case round =>
  clear H HFF;obtain⟨k,Fk,hq,hk,rfl,hff,H⟩:=hrel;have HFF:=Zh hff;clear hff;rcases (show k=0∨k=1 by omega) with rfl|rfl
  · replace H:St w.heap.size Fk (fun u=>De.Dv W0 u b Fk d∧Only F w u∧ErrVar u) [] wr:=H;go_upto_region 7 with fail;refine Zl ?_;refine tk (.int .i64 (((0:Nat):Int))) ?_;refine tk (.agg (u8s r.s0).toArray) ?_ (hr:=by have hqq:=Q4 r.enc (enc_length hw.len) 0 (by decide);rw [HS0.out] at hqq;exact hqq _ _ _ rfl rfl rfl);refine al Kd H ?_;clear H;intro g10 w10 H;refine tk (.int .i64 (((0:Nat):Int))) ?_;refine stS (K0 r) (KR (J1 _)) H 0 ?_;clear H;intro w10 H;go_upto_region 8 with fail;refine Zl ?_;refine tk (.pointer (some ⟨b,0,none⟩)) ?_;refine tk (.int .i64 (n*2)) ?_;refine tk (.int .i64 (((0:Nat):Int))) ?_;refine tk (.int .i64 (n*2)) ?_ (hr:=by go_simp;simp [HM.out]);refine ldS (K0 r) H 0 ?_;refine J0 rfl fun K hK=>?_;go_simp;refine (De.Xo H.ex.1 (by have:=HT.out;omega) (by have:=HLN.out;omega) (n*2) _ (j9 (K0 r))).mono ?_;rintro e w11 ⟨Fn,rfl,hd,hO,hf⟩;rw [HE0.out];have H0:=H.sz;replace H:=H.dev HZ.out.1 HZ.out.2.1 HZ.out.2.2 HFF.out hd hO hf;replace HFF:=Zh (xA HFF.out hf H0);clear hd hO hf;refine hK _ _ (nm ?_);clear hK K;refine tk (.int .i64 0) ?_;go_upto_region 9 with fail;refine Zl ?_;refine tk (.int .i64 0) ?_;refine tk (.bool false) ?_;go_wp2_with fail
    go_roundg (2-(0+1))
    case measure=>omega
    case rel=>exact⟨1,Fn,by omega,by omega,by go_num,HFF.out,H.cut 0⟩
  · replace H:St w.heap.size Fk (fun u=>De.Dv W0 u b Fk (d.write (n*2) (u8s r.s0).toArray)∧Only F w u∧ErrVar u) [] wr:=H;go_upto_region 7 with fail;refine Zl ?_;refine tk (.int .i64 (((1:Nat):Int))) ?_;refine tk (.agg (u8s r.s1).toArray) ?_ (hr:=by have hqq:=Q4 r.enc (enc_length hw.len) 1 (by decide);rw [HS1.out] at hqq;exact hqq _ _ _ rfl rfl rfl);refine al Kd H ?_;clear H;intro g10 w10 H;refine tk (.int .i64 (((1:Nat):Int))) ?_;refine stS (KT hw.len) (KR (J1 _)) H 0 ?_;clear H;intro w10 H;go_upto_region 8 with fail;refine Zl ?_;refine tk (.pointer (some ⟨b,0,none⟩)) ?_;refine tk (.int .i64 (n*2)) ?_;refine tk (.int .i64 (((1:Nat):Int))) ?_;refine tk (.int .i64 (n*2+1)) ?_ (hr:=by go_simp;simp [HM1.out]);refine ldS (KT hw.len) H 0 ?_;refine J0 rfl fun K hK=>?_;go_simp;refine (De.Xo H.ex.1 (by have:=HB.out;omega) (by have:=HB.out;omega) (n*2+1) _ (j9 (KT hw.len))).mono ?_;rintro e w11 ⟨Fn,rfl,hd,hO,hf⟩;rw [HE1.out];have H0:=H.sz;replace H:=H.dev HZ.out.1 HZ.out.2.1 HZ.out.2.2 HFF.out hd hO hf;replace HFF:=Zh (xA HFF.out hf H0);clear hd hO hf;refine hK _ _ (nm ?_);clear hK K;refine tk (.int .i64 12) ?_;go_upto_region 9 with fail;refine Zl ?_;refine tk (.int .i64 12) ?_;refine tk (.bool true) ?_;go_upto_region 10 with fail;refine Zl ?_;refine tk (.int .i64 12) ?_;refine tk (.int .i64 12) ?_;go_wp2_with fail
    go_ret;exact⟨Fn,rfl,H.ex.1,H.ex.2.1,HFF.out⟩
theorem J2q(r:Rg)(hw:r.Wf)(hg:r.good=true)(w:World){d:De.D}(h:De.Dv W0 w b F d)(hev:ErrVar w)(h0:0<W0.heap.size)(ht:r.g.tot≤(d.S.length:Int))(hT:d.T≤900000)(hLn:d.L.length≤900000)(n:Int)(hn:r.gen%2=n)(hF:d.F≠0)(hF1:(d.write (n*2) (u8s r.s0).toArray).F≠0):Calls Tryz.prog 19 #[.pointer (some ⟨b,0,none⟩),.agg r.cells.toArray] w (De.After W0 w b F (.int .i64 ((d.write (n*2) (u8s r.s0).toArray).write (n*2+1) (u8s r.s1).toArray).flushE) ((d.write (n*2) (u8s r.s0).toArray).write (n*2+1) (u8s r.s1).toArray).flush):=by
 have H:=St.start ((Stays.dv h.2.size).and (Stays.only.and (Stays.err hev.lt))) ⟨h,Only.refl F _,hev⟩;have HG:=Zh hg;have HTL:=Zh ht;have hlt:148≤(d.S.length:Int):=Int.le_trans (Gm.tot_good hg) ht;have HNB:Hid (∀w,Calls Tryz.prog 44 #[.agg r.cells.toArray] w fun e w'=>e=.returned (.int .i64 n)∧Below w.heap.size w w'):=Zh fun w=>hn ▸ Xr r hw w;have h01:0≤n∧n≤1:=by omega
 have HM:Hid (IntKind.i64.wrap (n*2)=n*2):=Zh (JQ (by omega) (by omega));have HM1:Hid (IntKind.i64.wrap (n*2+1)=n*2+1):=Zh (JQ (by omega) (by omega));have HE0:Hid (d.writeE (n*2)=0):=Zh (by rw [De.D.writeE_of (by simp [De.D.has];omega),if_neg hF]);have HE1:Hid ((d.write (n*2) (u8s r.s0).toArray).writeE (n*2+1)=0):=Zh (by rw [De.D.writeE_of (by simp only [De.D.has,De.D.write_S];simp;omega),if_neg hF1]);have HS0:Hid ((r.enc.drop (64*0)).take 64=r.s0):=Zh (by simp [Rg.enc,K0]);have HS1:Hid ((r.enc.drop (64*1)).take 64=r.s1):=Zh (by have h1:=KT hw.len;simp [Rg.enc,K0];rw [List.take_of_length_le (by omega)]);have HB:Hid (((d.write (n*2) (u8s r.s0).toArray).T≤900001∧(d.write (n*2) (u8s r.s0).toArray).L.length≤900001)∧((d.write (n*2) (u8s r.s0).toArray).write (n*2+1) (u8s r.s1).toArray).T≤900002∧((d.write (n*2) (u8s r.s0).toArray).write (n*2+1) (u8s r.s1).toArray).L.length≤900002):=Zh (by
  have:=De.D.write_T d (n*2) (u8s r.s0).toArray
  have:=De.D.write_L d (n*2) (u8s r.s0).toArray
  have:=De.D.write_T (d.write (n*2) (u8s r.s0).toArray) (n*2+1) (u8s r.s1).toArray
  have:=De.D.write_L (d.write (n*2) (u8s r.s0).toArray) (n*2+1) (u8s r.s1).toArray
  omega)
 have HT:=Zh hT;have HLN:=Zh hLn;have HFF:Hid (∀k,F k→F k∨w.heap.size≤k):=Zh fun _ h=>.inl h;have HZ:=Zh (⟨h0,hev.lt,h.2.size⟩:0<W0.heap.size∧0<w.heap.size∧W0.heap.size≤w.heap.size);clear h hg hev h0 ht hlt hT hLn hn h01 hF hF1;go_enter Tryz.func19,Tryz.ntmps19;go_upto_region 0 with fail;refine Zl ?_;refine bx H ?_;clear H;intro g1 w1 H;refine tk (.int .i64 0) ?_;go_upto_region 1 with fail;refine Zl ?_;refine ldR hw H 0 ?_;refine cl (yu HG.out hw _) H ?_;clear H;intro w2 H;refine tk (.bool false) ?_;refine tk (.bool false) ?_;refine tk (.pointer (some ⟨b,0,none⟩)) ?_;refine ldR hw H 0 ?_;refine cl (has_any _ hw _ H.ex.1) H ?_;clear H;intro w3 H;refine tk (.bool false) ?_ (hr:=by go_simp;(have hq:=HTL.out;omega));refine tk (.bool false) ?_;go_upto_region 3 with fail;refine Zl ?_;refine ldR hw H 0 ?_;refine cl (Zm HG.out hw _ H.ex.2.2) H ?_;clear H;intro w4 H;refine tk (.tuple #[.agg (u8s r.enc).toArray,.int .i64 0]) ?_;refine tk (.agg (u8s r.enc).toArray) ?_;refine tk (.int .i64 0) ?_;refine al Qb H ?_;clear H;intro g5 w5 H;refine stT (enc_length hw.len) (KR (J1 _)) H 1 ?_;clear H;intro w5 H;refine tk (.int .i64 0) ?_;go_upto_region 4 with fail;refine Zl ?_;refine ldR hw H 0 ?_;refine cl (HNB.out _) H ?_;clear H;intro w6 H;refine tk (.int .i64 (n*2)) ?_ (hr:=by go_simp;simp [HM.out]);refine tk (.int .i64 (n*2)) ?_;go_upto_region 5 with fail;refine Zl ?_;refine ldT (enc_length hw.len) H 1 ?_;refine tk (.int .i64 0) ?_;go_wp2_with fail
 go_loopg [29] 2 (fun q i wr=>∃(k:Nat) (Fk:Nat→Prop),2-k≤q∧k≤2∧i=.int .i64 k∧(∀k,Fk k→F k∨w.heap.size≤k)∧St w.heap.size Fk (fun u=>De.Dv W0 u b Fk (at3 d (d.write (n*2) (u8s r.s0).toArray) ((d.write (n*2) (u8s r.s0).toArray).write (n*2+1) (u8s r.s1).toArray) k)∧Only F w u∧ErrVar u) [] wr)
 case atStart=>exact⟨0,F,by omega,by omega,rfl,HFF.out,H.cut 0⟩
 case round =>
  clear H HFF;obtain⟨k,Fk,hq,hk,rfl,hff,H⟩:=hrel;have HFF:=Zh hff;clear hff;rcases (show k=0∨k=1∨k=2 by omega) with rfl|rfl|rfl
  · replace H:St w.heap.size Fk (fun u=>De.Dv W0 u b Fk d∧Only F w u∧ErrVar u) [] wr:=H;go_upto_region 7 with fail;refine Zl ?_;refine tk (.int .i64 (((0:Nat):Int))) ?_;refine tk (.agg (u8s r.s0).toArray) ?_ (hr:=by have hqq:=Q4 r.enc (enc_length hw.len) 0 (by decide);rw [HS0.out] at hqq;exact hqq _ _ _ rfl rfl rfl);refine al Kd H ?_;clear H;intro g10 w10 H;refine tk (.int .i64 (((0:Nat):Int))) ?_;refine stS (K0 r) (KR (J1 _)) H 0 ?_;clear H;intro w10 H;go_upto_region 8 with fail;refine Zl ?_;refine tk (.pointer (some ⟨b,0,none⟩)) ?_;refine tk (.int .i64 (n*2)) ?_;refine tk (.int .i64 (((0:Nat):Int))) ?_;refine tk (.int .i64 (n*2)) ?_ (hr:=by go_simp;simp [HM.out]);refine ldS (K0 r) H 0 ?_;refine J0 rfl fun K hK=>?_;go_simp;refine (De.Xo H.ex.1 (by have:=HT.out;omega) (by have:=HLN.out;omega) (n*2) _ (j9 (K0 r))).mono ?_;rintro e w11 ⟨Fn,rfl,hd,hO,hf⟩;rw [HE0.out];have H0:=H.sz;replace H:=H.dev HZ.out.1 HZ.out.2.1 HZ.out.2.2 HFF.out hd hO hf;replace HFF:=Zh (xA HFF.out hf H0);clear hd hO hf;refine hK _ _ (nm ?_);clear hK K;refine tk (.int .i64 0) ?_;go_upto_region 9 with fail;refine Zl ?_;refine tk (.int .i64 0) ?_;refine tk (.bool false) ?_;go_wp2_with fail
    go_roundg (2-(0+1))
    case measure=>omega
    case rel=>exact⟨1,Fn,by omega,by omega,by go_num,HFF.out,H.cut 0⟩
  · replace H:St w.heap.size Fk (fun u=>De.Dv W0 u b Fk (d.write (n*2) (u8s r.s0).toArray)∧Only F w u∧ErrVar u) [] wr:=H;go_upto_region 7 with fail;refine Zl ?_;refine tk (.int .i64 (((1:Nat):Int))) ?_;refine tk (.agg (u8s r.s1).toArray) ?_ (hr:=by have hqq:=Q4 r.enc (enc_length hw.len) 1 (by decide);rw [HS1.out] at hqq;exact hqq _ _ _ rfl rfl rfl);refine al Kd H ?_;clear H;intro g10 w10 H;refine tk (.int .i64 (((1:Nat):Int))) ?_;refine stS (KT hw.len) (KR (J1 _)) H 0 ?_;clear H;intro w10 H;go_upto_region 8 with fail;refine Zl ?_;refine tk (.pointer (some ⟨b,0,none⟩)) ?_;refine tk (.int .i64 (n*2)) ?_;refine tk (.int .i64 (((1:Nat):Int))) ?_;refine tk (.int .i64 (n*2+1)) ?_ (hr:=by go_simp;simp [HM1.out]);refine ldS (KT hw.len) H 0 ?_;refine J0 rfl fun K hK=>?_;go_simp;refine (De.Xo H.ex.1 (by have:=HB.out;omega) (by have:=HB.out;omega) (n*2+1) _ (j9 (KT hw.len))).mono ?_;rintro e w11 ⟨Fn,rfl,hd,hO,hf⟩;rw [HE1.out];have H0:=H.sz;replace H:=H.dev HZ.out.1 HZ.out.2.1 HZ.out.2.2 HFF.out hd hO hf;replace HFF:=Zh (xA HFF.out hf H0);clear hd hO hf;refine hK _ _ (nm ?_);clear hK K;refine tk (.int .i64 0) ?_;go_upto_region 9 with fail;refine Zl ?_;refine tk (.int .i64 0) ?_;refine tk (.bool false) ?_;go_wp2_with fail
    go_roundg (2-(1+1))
    case measure=>omega
    case rel=>exact⟨2,Fn,by omega,by omega,by go_num,HFF.out,H.cut 0⟩
  · replace H:St w.heap.size Fk (fun u=>De.Dv W0 u b Fk ((d.write (n*2) (u8s r.s0).toArray).write (n*2+1) (u8s r.s1).toArray)∧Only F w u∧ErrVar u) [] wr:=H;go_upto_region 12 with fail;refine Zl ?_;refine tk (.pointer (some ⟨b,0,none⟩)) ?_;refine J0 rfl fun K hK=>?_;go_simp;refine (De.qj H.ex.1 (by have:=HB.out;omega) (by have:=HB.out;omega)).mono ?_;rintro e w10 ⟨Fn,rfl,hd,hO,hf⟩;have H0:=H.sz;replace H:=H.dev HZ.out.1 HZ.out.2.1 HZ.out.2.2 HFF.out hd hO hf;replace HFF:=Zh (xA HFF.out hf H0);clear hd hO hf;refine hK _ _ (nm ?_);clear hK K;refine tk (.int .i64 ((d.write (n*2) (u8s r.s0).toArray).write (n*2+1) (u8s r.s1).toArray).flushE) ?_;go_wp2_with fail
    go_ret;exact⟨Fn,rfl,H.ex.1,H.ex.2.1,HFF.out⟩
theorem write_yes(r:Rg)(hw:r.Wf)(hg:r.good=true)(w:World){d:De.D}(h:De.Dv W0 w b F d)(hev:ErrVar w)(h0:0<W0.heap.size)(ht:r.g.tot≤(d.S.length:Int))(hT:d.T≤900000)(hLn:d.L.length≤900000):Calls Tryz.prog 19 #[.pointer (some ⟨b,0,none⟩),.agg r.cells.toArray] w (De.After W0 w b F (.int .i64 (d.putE r)) (d.put r)):=by
 unfold De.D.putE De.D.put
 by_cases hF:d.F=0
 · rw [if_pos hF,if_pos hF];exact J2o r hw hg w h hev h0 ht hT hLn _ rfl hF
 · by_cases hF1:(d.write (r.gen%2*2) (u8s r.s0).toArray).F=0
   · rw [if_neg hF,if_neg hF,if_pos hF1,if_pos hF1];exact J2p r hw hg w h hev h0 ht hT hLn _ rfl hF hF1
   · rw [if_neg hF,if_neg hF,if_neg hF1,if_neg hF1];exact J2q r hw hg w h hev h0 ht hT hLn _ rfl hF hF1
end Rn
end Go.Proofs.YtdbfmikeaoaebaaGreatDoor
