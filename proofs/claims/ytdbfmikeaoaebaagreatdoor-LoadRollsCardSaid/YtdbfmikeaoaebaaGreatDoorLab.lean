/- Steps. -/
import Derived.Test.YtdbfmikeaoaebaaGreatDoorLaa
import Derived.WalkKit
import Derived.WalkSpells
import Derived.WalkLawsBesides
import Derived.BigQuiet
import Derived.Deep.QuietTactic
import Derived.Deep.LoopGhost
import Derived.Lib.Hide
import Derived.Deep.DeepFit
import Derived.Deep.DeepMust
import Derived.OrdersHeld
import Derived.Laws.Rows
import Derived.Lib.EndianBits
import Derived.Deep.Upon
import Derived.Lib.AppendZeros
import Derived.Deep.Cut
import Derived.Deep.CutRange
import Derived.Maps.AppendAt
import Derived.Great.BuildSlice
import Derived.Great.FillDense
set_option linter.unusedSimpArgs false
set_option linter.unusedVariables false
set_option maxRecDepth 100000
set_option maxHeartbeats 4000000
namespace Go.Proofs.YtdbfmikeaoaebaaGreatDoor
open Go.RowKit
variable {B b:Nat} {P:Program} {cs:Array Value} {t:TypeId} {w w' w1 w2:World}
namespace Pl
structure Gm where
 p:Int
 s:Int
 l:Int
 f:Int
def Gm.Ok(g:Gm):Prop:=(1≤g.p∧g.p≤64)∧(6≤g.s∧g.s≤16)∧(24≤g.l∧g.l≤32)∧(2≤g.f∧g.f≤16)
abbrev Gm.v(g:Gm):Value:=.agg #[.int .i64 g.p,.int .i64 g.s,.int .i64 g.l,.int .i64 g.f]
theorem KP(n a b:Int)(h:a≤n∧n≤b)(w:World):Calls Tryz.prog 87 #[.int .i64 n,.int .i64 a,.int .i64 b] w fun e w'=>e=.returned (.bool true)∧w=w':=by
 obtain⟨h1,h2⟩:=h;go_enter Tryz.func87,Tryz.ntmps87
 go_wp2_with fail
 go_ret;exact⟨rfl,rfl⟩
theorem XQ(n a b:Int)(h:¬(a≤n∧n≤b))(w:World):Calls Tryz.prog 87 #[.int .i64 n,.int .i64 a,.int .i64 b] w fun e w'=>e=.returned (.bool false)∧w=w':=by
 by_cases h1:a≤n
 · have h2:¬n≤b:=fun h2=>h ⟨h1,h2⟩;clear h;go_enter Tryz.func87,Tryz.ntmps87
   go_wp2_with fail
   go_ret;exact⟨rfl,rfl⟩
 · clear h;go_enter Tryz.func87,Tryz.ntmps87
   go_wp2_with fail
   go_ret;exact⟨rfl,rfl⟩
theorem JX(g:Gm)(h:g.Ok)(w:World):Calls Tryz.prog 55 #[g.v] w (Zr w (.bool true)):=by
 obtain⟨h1,h2,h3,h4⟩:=h;have H1:=Zh fun w=>KP g.p 1 64 h1 w;have H2:=Zh fun w=>KP g.s 6 16 h2 w;have H3:=Zh fun w=>KP g.l 24 32 h3 w;have H4:=Zh fun w=>KP g.f 2 16 h4 w;clear h1 h2 h3 h4;go_enter Tryz.func55,Tryz.ntmps55
 go_wp2_with fail
 refine (H1.out _).mono ?_;rintro e w1 ⟨rfl,rfl⟩
 go_wp2_with fail
 refine (H2.out _).mono ?_;rintro e w1 ⟨rfl,rfl⟩
 go_wp2_with fail
 refine (H3.out _).mono ?_;rintro e w1 ⟨rfl,rfl⟩
 go_wp2_with fail
 refine (H4.out _).mono ?_;rintro e w1 ⟨rfl,rfl⟩
 go_wp2_with fail
 go_ret;exact⟨rfl,Zq.alloc Zy _⟩
theorem ZG(g:Gm)(h:¬g.Ok)(w:World):Calls Tryz.prog 55 #[g.v] w (Zr w (.bool false)):=by
 by_cases h1:1≤g.p∧g.p≤64
 · have H1:=Zh fun w=>KP g.p 1 64 h1 w
   by_cases h2:6≤g.s∧g.s≤16
   · have H2:=Zh fun w=>KP g.s 6 16 h2 w
     by_cases h3:24≤g.l∧g.l≤32
     · have H3:=Zh fun w=>KP g.l 24 32 h3 w;have H4:=Zh fun w=>XQ g.f 2 16 (fun h4=>h ⟨h1,h2,h3,h4⟩) w;clear h1 h2 h3 h;go_enter Tryz.func55,Tryz.ntmps55
       go_wp2_with fail
       refine (H1.out _).mono ?_;rintro e w1 ⟨rfl,rfl⟩
       go_wp2_with fail
       refine (H2.out _).mono ?_;rintro e w1 ⟨rfl,rfl⟩
       go_wp2_with fail
       refine (H3.out _).mono ?_;rintro e w1 ⟨rfl,rfl⟩
       go_wp2_with fail
       refine (H4.out _).mono ?_;rintro e w1 ⟨rfl,rfl⟩
       go_wp2_with fail
       go_ret;exact⟨rfl,Zq.alloc Zy _⟩
     · have H3:=Zh fun w=>XQ g.l 24 32 h3 w;clear h1 h2 h3 h;go_enter Tryz.func55,Tryz.ntmps55
       go_wp2_with fail
       refine (H1.out _).mono ?_;rintro e w1 ⟨rfl,rfl⟩
       go_wp2_with fail
       refine (H2.out _).mono ?_;rintro e w1 ⟨rfl,rfl⟩
       go_wp2_with fail
       refine (H3.out _).mono ?_;rintro e w1 ⟨rfl,rfl⟩
       go_wp2_with fail
       go_ret;exact⟨rfl,Zq.alloc Zy _⟩
   · have H2:=Zh fun w=>XQ g.s 6 16 h2 w;clear h1 h2 h;go_enter Tryz.func55,Tryz.ntmps55
     go_wp2_with fail
     refine (H1.out _).mono ?_;rintro e w1 ⟨rfl,rfl⟩
     go_wp2_with fail
     refine (H2.out _).mono ?_;rintro e w1 ⟨rfl,rfl⟩
     go_wp2_with fail
     go_ret;exact⟨rfl,Zq.alloc Zy _⟩
 · have H1:=Zh fun w=>XQ g.p 1 64 h1 w;clear h1 h;go_enter Tryz.func55,Tryz.ntmps55
   go_wp2_with fail
   refine (H1.out _).mono ?_;rintro e w1 ⟨rfl,rfl⟩
   go_wp2_with fail
   go_ret;exact⟨rfl,Zq.alloc Zy _⟩
theorem jk(g:Gm)(h:g.Ok)(w:World):Calls Tryz.prog 18 #[g.v] w (Zr w (.bool true)):=by
 obtain⟨⟨h1,h2⟩,⟨h3,h4⟩,⟨h5,h6⟩,⟨h7,h8⟩⟩:=h;go_enter Tryz.func18,Tryz.ntmps18
 go_wp2_with fail
 go_ret;exact⟨rfl,Zq.alloc Zy _⟩
theorem J83(g:Gm)(h:¬g.Ok)(w:World):Calls Tryz.prog 18 #[g.v] w (Zr w (.bool false)):=by
 have H:Hid (¬((1≤g.p∧g.p≤64)∧(6≤g.s∧g.s≤16)∧(24≤g.l∧g.l≤32)∧(2≤g.f∧g.f≤16))):=Zh h;clear h
 by_cases h8:g.f≤16
 all_goals
  go_enter Tryz.func18,Tryz.ntmps18
  go_wp2_with fail
  all_goals go_ret
  all_goals first|exact⟨rfl,Zq.alloc Zy _⟩|(exfalso;have:=H.out;omega)
theorem Z8(g:Gm)(w:World):Calls Tryz.prog 88 #[g.v,.int .i64 1] w (Zr w (.int .i64 4)):=by
 go_enter Tryz.func88,Tryz.ntmps88
 go_wp2_with fail
 go_ret;exact⟨rfl,Zq.alloc Zy _⟩
theorem ks{a b:Int}(h:a=b):Ending.returned (.int .i64 a)=Ending.returned (.int .i64 b):=congrArg (fun n=>Ending.returned (.int .i64 n)) h
theorem x8{a b A B:Int}(h0:0≤a)(h1:a≤A)(k0:0≤b)(k1:b≤B):0≤a*b∧a*b≤A*B :=
 ⟨Int.mul_nonneg h0 k0,Int.mul_le_mul h1 k1 k0 (by omega)⟩
theorem Gm.Ok.area{g:Gm}(h:g.Ok):0≤g.s*g.l∧g.s*g.l≤512:=by
 obtain⟨_,⟨h3,h4⟩,⟨h5,h6⟩,_⟩:=h;exact x8 (by omega) h4 (by omega) h6
theorem Y4(g:Gm)(h:g.Ok)(w:World):Calls Tryz.prog 88 #[g.v,.int .i64 2] w (Zr w (.int .i64 (4+g.s*g.l))):=by
 obtain⟨a0,a1⟩:=h.area;go_enter Tryz.func88,Tryz.ntmps88
 go_wp2_with fail
 go_ret;exact⟨ks (by omega),Zq.alloc Zy _⟩
structure GAt (w:World) (b:Nat) (g:Gm):Prop where
 p:w.cell? ⟨b,0,none⟩=some (.int .i64 g.p)
 s:w.cell? ⟨b,1,none⟩=some (.int .i64 g.s)
 l:w.cell? ⟨b,2,none⟩=some (.int .i64 g.l)
 f:w.cell? ⟨b,3,none⟩=some (.int .i64 g.f)
theorem GAt.below{g:Gm}(h:GAt w b g)(hb:Below B w w')(hlt:b<B):GAt w' b g :=
 ⟨(hb.cell hlt).trans h.p,(hb.cell hlt).trans h.s,(hb.cell hlt).trans h.l,(hb.cell hlt).trans h.f⟩
abbrev Gm.box(g:Gm)(w:World):World:=w.alloc (.cells #[.int .i64 g.p,.int .i64 g.s,.int .i64 g.l,.int .i64 g.f] 23)
theorem GAt.box(g:Gm)(w:World):GAt (g.box w) w.heap.size g:=by
 have h:(g.box w).heap[w.heap.size]? = some (.cells #[.int .i64 g.p,.int .i64 g.s,.int .i64 g.l,.int .i64 g.f] 23 (0,0)):=heap_alloc_new w _;exact⟨cell_of_row _ _ 0 _ _ _ h,cell_of_row _ _ 1 _ _ _ h,cell_of_row _ _ 2 _ _ _ h,cell_of_row _ _ 3 _ _ _ h⟩
theorem box_below(g:Gm)(w:World):Below w.heap.size w (g.box w):=Zq.alloc Zy _
theorem KY{g:Gm}(hb:Below (g.box w).heap.size (g.box w) w1):Below w.heap.size w w1∧GAt w1 w.heap.size g∧w.heap.size<w1.heap.size :=
 ⟨(box_below g w).trans (hb.mono (by simp)),(GAt.box g w).below hb (by simp),Nat.lt_of_lt_of_le (by simp) hb.size⟩
theorem ZH{g:Gm}(h:Below w.heap.size w w1∧GAt w1 b g∧b<w1.heap.size)(hb:Below w1.heap.size w1 w2):Below w.heap.size w w2∧GAt w2 b g∧b<w2.heap.size :=
 ⟨h.1.trans (hb.mono h.1.size),h.2.1.below hb h.2.2,Nat.lt_of_lt_of_le h.2.2 hb.size⟩
def Gm.maps(g:Gm):Int:=(g.p+7).tdiv 8
theorem J84(g:Gm)(h:¬g.Ok)(w:World):Calls Tryz.prog 57 #[g.v] w (Zr w (.int .i64 0)):=by
 have H:=Zh fun w=>ZG g h w;clear h;go_enter Tryz.func57,Tryz.ntmps57
 go_wp2_with fail
 refine (H.out _).mono ?_;rintro e w1 ⟨rfl,hb⟩;have HB:=Zh (KY hb);clear hb
 go_wp2_with fail
 go_ret;exact⟨rfl,HB.out.1⟩
theorem QH(g:Gm)(h:g.Ok)(w:World):Calls Tryz.prog 57 #[g.v] w (Zr w (.int .i64 (4+g.s*g.l))):=by
 have H:=Zh fun w=>JX g h w;have H2:=Zh fun w=>Y4 g h w;clear h;go_enter Tryz.func57,Tryz.ntmps57
 go_wp2_with fail
 refine (H.out _).mono ?_;rintro e w1 ⟨rfl,hb⟩;have HB:=Zh (KY hb);clear hb;obtain⟨c0,c1,c2,c3⟩:=HB.out.2.1
 go_wp2_with fail
 refine (H2.out _).mono ?_;rintro e w2 ⟨rfl,hb⟩;have HB2:=Zh (ZH HB.out hb);clear hb
 go_wp2_with fail
 go_ret;exact⟨rfl,HB2.out.1⟩
theorem J85(g:Gm)(h:g.Ok)(n:Int)(hn:0≤n∧n≤g.s-1)(w:World):Calls Tryz.prog 77 #[g.v,.int .i64 n] w (Zr w (.int .i64 (4+n*g.l))):=by
 have H9:=Zh fun w=>JX g h w;have HB1:=Zh fun w=>Z8 g w;have HW:=Zh fun w=>KP n 0 (g.s-1) hn w;obtain⟨_,⟨h3,h4⟩,⟨h5,h6⟩,_⟩:=h;have ha:0≤n*g.l∧n*g.l≤512:=x8 (B:=32) (A:=16) (by omega) (by omega) (by omega) (by omega);obtain⟨a0,a1⟩:=ha;go_enter Tryz.func77,Tryz.ntmps77
 go_wp2_with fail
 refine (H9.out _).mono ?_;rintro e w1 ⟨rfl,hb⟩;have HB:=Zh (KY hb);clear hb;obtain⟨c0,c1,c2,c3⟩:=HB.out.2.1
 go_wp2_with fail
 refine (HW.out _).mono ?_;rintro e w2 ⟨rfl,rfl⟩
 go_wp2_with fail
 refine J9 (fun wq=>Below w1.heap.size w1 wq) (by kernel_rfl) ?_;refine Jl 0 (some 16) (g.v) rfl rfl (by kernel_rfl) (by kernel_rfl) (by kernel_rfl) (fun _ _ _ h=>h) rfl (fun w hS=>by obtain⟨c0,c1,c2,c3⟩:=HB.out.2.1.below hS HB.out.2.2;go_simp) Zq.drew ?_;refine nm ?_;refine Jl 2 (some 18) (.int .i64 n) rfl rfl (by kernel_rfl) (by kernel_rfl) (by kernel_rfl) (fun _ _ _ h=>h) rfl (fun w _=>by go_simp) Zq.drew ?_;refine nm ?_;refine Jl 3 (some 19) (.pointer (some ⟨w.heap.size,2,none⟩)) rfl rfl (by kernel_rfl) (by kernel_rfl) (by kernel_rfl) (fun _ _ _ h=>h) rfl (fun w _=>by go_simp) Zq.drew ?_;refine nm ?_;refine Jl 4 (some 20) (.int .i64 g.l) rfl rfl (by kernel_rfl) (by kernel_rfl) (by kernel_rfl) (fun _ _ _ h=>h) rfl (fun w hS=>by obtain⟨c0,c1,c2,c3⟩:=HB.out.2.1.below hS HB.out.2.2;go_simp) Zq.drew ?_;refine nm ?_;refine Jl 5 (some 21) (.int .i64 (n*g.l)) rfl rfl (by kernel_rfl) (by kernel_rfl) (by kernel_rfl) (fun _ _ _ h=>h) rfl (fun w _=>by go_simp <;> first|done|(go_ints;first|done|trivial)) Zq.drew ?_;refine nm ?_;refine Zo 1 fun K hK=>?_;go_simp;refine (HB1.out _).mono ?_;rintro e w1 ⟨rfl,hb⟩;have HS1:=Zh (Jk Zq.drew hb);refine hK _ _ HS1.out ?_;clear hK hb K;refine nm ?_;refine Jl 6 (some 22) (.int .i64 (4+(n*g.l))) rfl rfl (by kernel_rfl) (by kernel_rfl) (by kernel_rfl) (fun _ _ _ h=>h) rfl (fun w _=>by go_simp <;> first|done|(go_ints;first|done|trivial)) HS1.out ?_;refine nm ?_;refine Jl 7 (some 4) (.int .i64 (4+(n*g.l))) rfl rfl (by kernel_rfl) (by kernel_rfl) (by kernel_rfl) (fun _ _ _ h=>h) rfl (fun w _=>by go_simp) HS1.out ?_;refine nm ?_;refine Zd ?_
 go_wp2_with fail
 go_ret;exact⟨rfl,HB.out.1.trans (HS1.mono HB.out.1.size)⟩
def Gm.cap(g:Gm):Int:=max 0 (min g.p ((4*(g.s-4)-g.maps)/3))
theorem Gm.Ok.maps{g:Gm}(h:g.Ok):1≤g.maps∧g.maps≤8∧g.p≤g.maps*8∧(g.maps-1)*8<g.p:=by
 obtain⟨⟨h1,h2⟩,_,_,_⟩:=h;unfold Gm.maps;rw [Int.tdiv_eq_ediv_of_nonneg (by omega)];omega
theorem _root_.Go.Proofs.YtdbfmikeaoaebaaGreatDoor.Blk.newAt(t:TypeId)(n:Nat)(l:List Value)(hn:n=w.heap.size)(hl:l=cs.toList):Blk (w.alloc (.cells cs t)) n l:=by
 subst hn;subst hl;exact⟨t,by simpa using heap_alloc_new w (.cells cs t)⟩
theorem yU{fn:Func}{p:Tmp}{ty:TypeId}(h:fn.results=#[.cell p ty])(tmps:Array Value)(w:World)(g:Nat)(l:List Value)(d:TypeDesc)(hp:tmps.getD p undef=.pointer (some ⟨g,0,none⟩))(hg:Blk w g l)(hu:P.underlying ty=some d)(hd:(match d with|.struct _|.array _ _=>true|_=>false)=true)(hi:(P.info? ty).map (·.size)=some l.length) :
 (results fn tmps).run P w=.ok (.agg l.toArray) w:=by
 obtain⟨t,ht⟩:=hg;exact results_cell_row h tmps w g t l.toArray _ d hp ht hu hd (by simpa using hi)
theorem J55{a b c a' b' c':Int}(h0:a=a')(h1:b=b')(h2:c=c'):Ending.returned (.agg #[.int .i64 a,.int .i64 b,.int .i64 c])=Ending.returned (.agg #[.int .i64 a',.int .i64 b',.int .i64 c']):=by
 subst h0 h1 h2;rfl
theorem info23:(Tryz.prog.info? 23).map (·.size)=some 4:=by kernel_rfl
theorem Jgt:(Tryz.prog.info? 32).map (·.size)=some 3:=by kernel_rfl
theorem J56(w:World):Calls Tryz.prog 17 #[] w (Zr w (.agg #[.int .i64 16,.int .i64 8,.int .i64 24,.int .i64 4])):=by
 go_enter Tryz.func17,Tryz.ntmps17
 go_wp2_with fail
 exact bodyPost_ret (v:=.agg #[.int .i64 16,.int .i64 8,.int .i64 24,.int .i64 4]) (results_cell_row rfl _ _ w.heap.size 23 #[.int .i64 16,.int .i64 8,.int .i64 24,.int .i64 4] _ _ rfl (heap_alloc_new w _) Tryz.underlying23 rfl info23) rfl ⟨rfl,Zq.alloc Zy _⟩
theorem J57{g:Gm}{a b c:Value}(hb:Below ((g.box w).alloc (.cells #[a,b,c] t)).heap.size ((g.box w).alloc (.cells #[a,b,c] t)) w1) :
 Below w.heap.size w w1∧GAt w1 w.heap.size g∧Blk w1 (w.heap.size+1) [a,b,c]∧w.heap.size+2≤w1.heap.size :=
 ⟨((box_below g w).alloc (by simp) _).trans (hb.mono (by simp;omega)),((GAt.box g w).below ((Below.refl (g.box w).heap.size _).alloc Zy _) (by simp)).below hb (by simp;omega),(Blk.newAt t _ _ (by simp) rfl).below hb (by simp),by have:=hb.size;simp at this;omega⟩
theorem _root_.Go.Proofs.YtdbfmikeaoaebaaGreatDoor.Blk.allocs{l:List Value}(h:Blk w b l)(i:Nat)(v:Value)(hi:l[i]? = some v):∀o,(w.alloc o).cell? ⟨b,i,none⟩=some v:=fun o=>(h.alloc o).cell hi
theorem _root_.Go.Proofs.YtdbfmikeaoaebaaGreatDoor.Blk.frozens{l:List Value}(h:Blk w b l)(i:Nat):∀o,(w.alloc o).frozen? ⟨b,i,none⟩=false:=fun o=>(h.alloc o).frozen i
theorem GAt.allocs{g:Gm}(h:GAt w b g)(hlt:b<w.heap.size)(o:Obj):GAt (w.alloc o) b g:=h.below ((Below.refl w.heap.size w).alloc Zy o) hlt
theorem kt(g:Gm)(h:g.Ok)(w:World):Calls Tryz.prog 10 #[g.v] w (Zr w (.agg #[.int .i64 g.maps,.int .i64 (4+g.s*g.l),.int .i64 g.cap])):=by
 have H:=Zh fun w=>jk g h w;obtain⟨a0,a1⟩:=h.area;obtain⟨m0,m1,_⟩:=h.maps;obtain⟨⟨h1,h2⟩,⟨h3,h4⟩,_,_⟩:=h;have HM:Hid (g.maps=(g.p+7)/8):=Zh (by unfold Gm.maps;rw [Int.tdiv_eq_ediv_of_nonneg (by omega)]);have hm:1≤(g.p+7)/8∧(g.p+7)/8≤8:=by omega
 obtain⟨hm1,hm2⟩:=hm;go_enter Tryz.func10,Tryz.ntmps10
 go_wp2_with fail
 refine (H.out _).mono ?_;rintro e w1 ⟨rfl,hb⟩;have HB:=Zh (J57 hb);clear hb;obtain⟨c0,c1,c2,c3⟩:=HB.out.2.1;have e0:=fun o=>(HB.out.2.1.allocs (by have:=HB.out.2.2.2;omega) o).p;have e1:=fun o=>(HB.out.2.1.allocs (by have:=HB.out.2.2.2;omega) o).s;have d0:=HB.out.2.2.1.allocs 0 _ rfl;have d1:=HB.out.2.2.1.allocs 1 _ rfl;have d2:=HB.out.2.2.1.allocs 2 _ rfl;have f0:=HB.out.2.2.1.frozens 0;have f1:=HB.out.2.2.1.frozens 1;have f2:=HB.out.2.2.1.frozens 2
 go_wp2_with fail
 all_goals
  refine bodyPost_ret (yU rfl _ _ (w.heap.size+1) [_,_,_] _ rfl ((((HB.out.2.2.1.alloc _).set 0 _).set 1 _).set 2 _) Tryz.underlying32 rfl Jgt) rfl ⟨J55 HM.symm rfl ?_,(((HB.out.1.alloc HB.out.1.size _).setCell (by simp) _).setCell (by simp) _).setCell (by simp) _⟩;unfold Gm.cap;rw [HM.out];omega
end Pl
variable {B b cap g i k m n:Nat} {L:List Value} {W w w':World} {sv v:Value}
abbrev Mk:=Int×Int
structure Sm where
 seq:Int
 more:Bool
 marks:List Mk
structure Sm.Wf (s:Sm):Prop where
 seq:0≤s.seq∧s.seq<4294967296
 marks:∀m∈s.marks,Jh m.1∧Jh m.2
theorem K8(n:Nat):∀x∈zeros n,Ks x:=fun x hx=>by
 rw [List.eq_of_mem_replicate hx];exact⟨by decide,by decide⟩
def kindIds(n:Int):Int:=if n=3 then 8 else if 1≤n∧n≤5 then 64 else 0
def JE(n:Int):Bool:=decide (1≤n)&&decide (n≤3)
def Kf(m:Mk):Bool:=decide (0≤m.2)&&decide (m.2<kindIds m.1)
def JC:List Mk→Nat
 | []=>0
 | m::l=>(if JE m.1 then 1 else 0)+JC l
def Ju(l:List Mk):Bool:=decide (1≤l.length)&&decide (l.length≤24)&&l.all Kf
def Sm.good(s:Sm):Bool:=Ju s.marks
theorem KQ{m:Mk}:Kf m=true↔(1≤m.1∧m.1≤5∧0≤m.2∧m.2<64∧(m.1=3→m.2<8)):=by
 have hk:kindIds m.1=if m.1=3 then 8 else if 1≤m.1∧m.1≤5 then 64 else 0:=rfl
 unfold Kf;generalize kindIds m.1=n at *;simp only [Bool.and_eq_true,decide_eq_true_eq];split at hk
 · omega
 · split at hk <;> omega
theorem QI(l:List Mk):JC l≤l.length:=by
 induction l with
 | nil=>simp [JC]
 | cons m l ih =>
  simp only [JC,List.length_cons];split <;> omega
theorem Z0(l m:List Mk):JC (l++m)=JC l+JC m:=by
 induction l with
 | nil=>simp [JC]
 | cons x l ih =>
  simp only [List.cons_append,JC,ih];omega
def flat:List Mk→List Int
 | []=>[]
 | m::l=>m.1::m.2::flat l
theorem Ka(l:List Mk):(flat l).length=2*l.length:=by
 induction l with
 | nil=>rfl
 | cons m l ih=>simp only [flat,List.length_cons,ih];omega
theorem Yq(l m:List Mk):flat (l++m)=flat l++flat m:=by
 induction l with
 | nil=>rfl
 | cons x l ih=>simp [flat,ih]
theorem kP(l:List Mk)(i:Nat):(flat l)[2*i]? = l[i]?.map Prod.fst:=by
 induction l generalizing i with
 | nil=>simp [flat]
 | cons m l ih =>
  cases i with
  | zero=>simp [flat]
  | succ i =>
   rw [show 2*(i+1)=2*i+1+1 by omega];simp only [flat,List.getElem?_cons_succ,ih]
theorem kQ(l:List Mk)(i:Nat):(flat l)[2*i+1]? = l[i]?.map Prod.snd:=by
 induction l generalizing i with
 | nil=>simp [flat]
 | cons m l ih =>
  cases i with
  | zero=>simp [flat]
  | succ i =>
   rw [show 2*(i+1)+1=2*i+1+1+1 by omega];simp only [flat,List.getElem?_cons_succ,ih]
theorem J58{l:List Mk}{m:Mk}(h:l[k]? = some m):flat (l.take (k+1))=flat (l.take k)++[m.1,m.2]:=by
 rw [List.take_add_one,h,Yq];simp [flat]
def bit(b:Bool):Int:=if b then 1 else 0
theorem J59(b:Bool):0≤bit b∧bit b≤1:=by cases b <;> simp [bit]
def Sm.pre(s:Sm):List Int:=83::bit s.more::(le 4 s.seq++[(s.marks.length:Int)])
theorem QJ(s:Sm):s.pre.length=7:=by simp [Sm.pre,J7]
def Sm.enc(s:Sm):List Int:=s.pre++(flat s.marks++zeros (57-2*s.marks.length))
def Sm.sec(s:Sm):List Int:=if s.good then s.enc else zeros 64
def Sm.err(s:Sm):Int:=if s.good then 0 else 11
def Sm.none:Sm:=⟨0,false,[]⟩
theorem QU{l:List Mk}(h:Ju l=true):1≤l.length∧l.length≤24:=by
 simp only [Ju,Bool.and_eq_true,decide_eq_true_eq] at h;exact h.1
theorem xP{l:List Mk}(h:Ju l=true):∀m∈l,Kf m=true:=by
 simp only [Ju,Bool.and_eq_true,List.all_eq_true] at h;exact h.2
theorem jl{l:List Mk}(h:Ju l=true):∀m∈l,Ks m.1∧Ks m.2:=fun m hm=>by
 have:=KQ.1 (xP h m hm);exact⟨⟨by omega,by omega⟩,⟨by omega,by omega⟩⟩
theorem J5a{l:List Mk}(h:∀m∈l,Ks m.1∧Ks m.2):∀x∈flat l,Ks x:=by
 induction l with
 | nil=>intro x hx;cases hx
 | cons m l ih =>
  intro x hx;simp only [flat,List.mem_cons] at hx;rcases hx with rfl|rfl|hx
  · exact (h m (by simp)).1
  · exact (h m (by simp)).2
  · exact ih (fun y hy=>h y (by simp [hy])) x hx
theorem Xz{s:Sm}(h:s.good=true):s.enc.length=64:=by
 have:=QU h;simp only [Sm.enc,List.length_append,QJ,Ka,J1];omega
theorem Yr(s:Sm):s.sec.length=64:=by
 unfold Sm.sec;split
 · exact Xz ‹_›
 · exact J1 _
theorem J5b{s:Sm}(h:s.good=true):∀x∈s.enc,Ks x:=by
 have hl:=QU h;have hb:=J59 s.more;intro x hx;simp only [Sm.enc,Sm.pre,List.mem_append,List.mem_cons,List.not_mem_nil,or_false,List.cons_append] at hx;rcases hx with rfl|rfl|(hx|rfl)|hx|hx
 · exact⟨by decide,by decide⟩
 · exact⟨hb.1,by omega⟩
 · exact X3 _ _ x hx
 · exact⟨by omega,by omega⟩
 · exact J5a (jl h) x hx
 · exact K8 _ x hx
theorem Jcz{s:Sm}(h:s.good=true):Sc s.enc:=⟨Xz h,J5b h⟩
theorem J86(s:Sm):Sc s.sec:=by
 unfold Sm.sec;split
 · exact Jcz ‹_›
 · exact⟨J1 _,K8 _⟩
def MarksAt(w:World)(sv:Value)(l:List Mk):Prop:=∃a cap,sv=.slice a l.length cap∧∀i m,l[i]? = some m→∃b o,a=some ⟨b,o,none⟩∧w.cell? ⟨b,o+i*2,none⟩=some (.int .i64 m.1)∧w.cell? ⟨b,o+i*2+1,none⟩=some (.int .i64 m.2)
theorem MarksAt.below{l:List Mk}(h:MarksAt w sv l)(hb:Below w.heap.size w w'):MarksAt w' sv l:=by
 obtain⟨a,cap,e,hc⟩:=h;refine⟨a,cap,e,fun i x hx=>?_⟩;obtain⟨b,o,e2,h1,h2⟩:=hc i x hx;exact⟨b,o,e2,(hb.cell (block_lt_of_cell h1)).trans h1,(hb.cell (block_lt_of_cell h2)).trans h2⟩
theorem MarksAt.nil(w:World)(cap:Nat)(a:Option Addr):MarksAt w (.slice a 0 cap) []:=⟨a,cap,rfl,fun i x h=>by simp at h⟩
theorem MarksAt.has{l:List Mk}(h:MarksAt w sv l)(hl:0<l.length):∃b o cap,sv=.slice (some ⟨b,o,none⟩) l.length cap∧∀i m,l[i]? = some m→w.cell? ⟨b,o+i*2,none⟩=some (.int .i64 m.1)∧w.cell? ⟨b,o+i*2+1,none⟩=some (.int .i64 m.2):=by
 obtain⟨a,cap,e,hc⟩:=h;obtain⟨b,o,e2,_⟩:=hc 0 l[0] (by simp [hl]);subst e2;refine⟨b,o,cap,e,fun i x hx=>?_⟩;obtain⟨b',o',e3,hx2⟩:=hc i x hx;cases e3;exact hx2
theorem kR(n:Int)(w:World):Calls Tryz.prog 186 #[.int .i64 n] w fun e w'=>e=.returned (.tuple #[.int .i64 (kindIds n),.bool (JE n)])∧w=w':=by
 by_cases h3:n=3
 · subst h3;go_enter Tryz.func186,Tryz.ntmps186
   go_wp2_with fail
   go_ret2;exact⟨rfl,rfl⟩
 · by_cases h1:n=1
   · subst h1;go_enter Tryz.func186,Tryz.ntmps186
     go_wp2_with fail
     go_ret2;exact⟨rfl,rfl⟩
   · by_cases h2:n=2
     · subst h2;go_enter Tryz.func186,Tryz.ntmps186
       go_wp2_with fail
       go_ret2;exact⟨rfl,rfl⟩
     · by_cases h4:n=4
       · subst h4;go_enter Tryz.func186,Tryz.ntmps186
         go_wp2_with fail
         go_ret2;exact⟨rfl,rfl⟩
       · by_cases h5:n=5
         · subst h5;go_enter Tryz.func186,Tryz.ntmps186
           go_wp2_with fail
           go_ret2;exact⟨rfl,rfl⟩
         · have e1:kindIds n=0:=by unfold kindIds;rw [if_neg h3,if_neg (by omega)]
           have e2:JE n=false:=by unfold JE;rw [Bool.and_eq_false_iff,decide_eq_false_iff_not,decide_eq_false_iff_not];omega
           rw [e1,e2];clear e1 e2;go_enter Tryz.func186,Tryz.ntmps186
           go_wp2_with fail
           go_ret2;exact⟨rfl,rfl⟩
theorem J13{l:List Mk}(h:l.length<1):Ju l=false:=by unfold Ju;rw [decide_eq_false (by omega)];rfl
theorem J5c{l:List Mk}(h:24<l.length):Ju l=false:=by unfold Ju;rw [decide_eq_false (p:=l.length≤24) (by omega)];simp
theorem yV{l:List Mk}{m:Mk}(hk:l[k]? = some m)(h:Kf m=false):Ju l=false:=by
 cases e:Ju l with
 | false=>rfl
 | true =>
  have:=xP e m (List.mem_of_getElem? hk);rw [h] at this;cases this
theorem good_all{l:List Mk}(h1:1≤l.length)(h2:l.length≤24)(h:∀k m,l[k]? = some m→k<l.length→Kf m=true):Ju l=true:=by
 unfold Ju;rw [decide_eq_true h1,decide_eq_true h2,Bool.true_and,Bool.true_and,List.all_eq_true];intro m hm;obtain⟨k,hk,rfl⟩:=List.mem_iff_getElem.1 hm;exact h k _ (by simp [hk]) hk
theorem Y5(sv:Value)(l:List Mk)(hl:l.length≤1000000)(w:World)(h:MarksAt w sv l):Calls Tryz.prog 179 #[sv] w (Zr w (.bool (Ju l))):=by
 obtain⟨a,cap,rfl,hc⟩:=id h;have HC:=Zh hc;clear h hc
 by_cases hs1:l.length<1
 · have HG:=Zh (J13 hs1);go_enter Tryz.func179,Tryz.ntmps179
   go_wp2_with fail
   go_ret;exact⟨by first|(rw [HG.out];done)|(rw [HG.out];rfl),Below.refl _ _⟩
 by_cases hs2:24<l.length
 · have HG:=Zh (J5c hs2);go_enter Tryz.func179,Tryz.ntmps179
   go_wp2_with fail
   go_ret;exact⟨by first|(rw [HG.out];done)|(rw [HG.out];rfl),Below.refl _ _⟩
 go_enter Tryz.func179,Tryz.ntmps179
 go_wp2_with fail
 go_loopg [17] l.length (fun q i wr=>∃k:Nat,l.length-k≤q∧k≤l.length∧i=.int .i64 k∧(∀j m,l[j]? = some m→j<k→Kf m=true)∧Below w.heap.size w wr)
 case atStart=>exact⟨0,by omega,by omega,rfl,fun j m _ h=>by omega,Below.refl _ _⟩
 case round =>
  obtain⟨k,hg,hk,rfl,hall,hbel⟩:=hrel;have HB:=Zh hbel;have HA:=Zh hall;clear hbel hall
  by_cases hlt:k<l.length
  · have hlk:l[k]? = some l[k]:=by simp [hlt]
    obtain⟨b,o,rfl,h1,h2⟩:=HC.out k l[k] hlk;have c1:=(HB.cell (block_lt_of_cell h1)).trans h1;have c2:=(HB.cell (block_lt_of_cell h2)).trans h2;clear h1 h2;generalize l[k]=m at *;obtain⟨mk,mi⟩:=m;have HLK:=Zh hlk;clear hlk;simp only at c1 c2;have hk0:(0:Int)≤(k:Int):=by omega
    have hk1:(k:Int)<(l.length:Int):=by omega
    have HK:=Zh fun w=>kR mk w;obtain⟨ids,hids⟩:∃n,kindIds mk=n:=⟨_,rfl⟩
    rw [hids] at HK;have HI:=Zh hids;clear hids
    by_cases hm0:mi<0
    · have HG:=Zh (yV (l:=l) HLK.out (show Kf (mk,mi)=false by unfold Kf;rw [decide_eq_false (by simp only;omega)];rfl))
      go_wp2_with fail
      refine (HK.out _).mono ?_;rintro e w1 ⟨rfl,rfl⟩
      go_wp2_with fail
      go_ret;exact⟨by first|(rw [HG.out];done)|(rw [HG.out];rfl),HB.alloc HB.size _⟩
    · by_cases hm1:ids≤mi
      · have HG:=Zh (yV (l:=l) HLK.out (show Kf (mk,mi)=false by unfold Kf;rw [HI.out,decide_eq_false (p:=mi<ids) (by omega)];simp))
        go_wp2_with fail
        refine (HK.out _).mono ?_;rintro e w1 ⟨rfl,rfl⟩
        go_wp2_with fail
        go_ret;exact⟨by first|(rw [HG.out];done)|(rw [HG.out];rfl),HB.alloc HB.size _⟩
      · have HO:=Zh (show Kf (mk,mi)=true by unfold Kf;rw [HI.out,decide_eq_true (p:=mi<ids) (by omega),decide_eq_true (by simp only;omega)];rfl)
        go_wp2_with fail
        refine (HK.out _).mono ?_;rintro e w1 ⟨rfl,rfl⟩
        go_wp2_with fail
        go_roundg (l.length-(k+1))
        case measure=>omega
        case rel =>
         refine⟨k+1,by omega,by omega,by go_num,fun j m hj hjk=>?_,HB.alloc HB.size _⟩
         by_cases e:j=k
         · subst e;rw [HLK.out] at hj;cases hj;exact HO.out
         · exact HA.out j m hj (by omega)
  · have hkl:k=l.length:=by omega
    subst hkl;have HG:=Zh (good_all (l:=l) (by omega) (by omega) HA.out);clear hlt
    go_wp2_with fail
    go_ret;exact⟨by first|(rw [HG.out];done)|(rw [HG.out];rfl),HB.out⟩
abbrev Sm.cells(s:Sm)(sv:Value):List Value:=[.int .u32 s.seq,.bool s.more,sv]
structure sES (W w:World) (g r:Nat) (s:Sm) (sv:Value):Prop where
 sm:Blk w g (s.cells sv)
 res:Blk w r (u8s (zeros 64))
 bel:Below W.heap.size W w
 g0:W.heap.size≤g
 gr:g<r
theorem sES.below{r:Nat}{s:Sm}(h:sES W w g r s sv)(hb:Below w.heap.size w w'):sES W w' g r s sv :=
 ⟨h.sm.below hb h.sm.lt,h.res.below hb h.res.lt,h.bel.trans (hb.mono h.bel.size),h.g0,h.gr⟩
structure sET (W w:World) (g r x:Nat) (s:Sm) (sv:Value) (L:List Int):Prop where
 es:sES W w g r s sv
 sec:Blk w x (u8s L)
 rx:r<x
theorem sET.below{r x:Nat}{s:Sm}{L:List Int}(h:sET W w g r x s sv L)(hb:Below w.heap.size w w'):sET W w' g r x s sv L :=
 ⟨h.es.below hb,h.sec.below hb h.sec.lt,h.rx⟩
theorem sET.drew{r x:Nat}{s:Sm}{L:List Int}(h:sET W w g r x s sv L):sET W w.drew g r x s sv L:=h.below Zq.drew
theorem sET.alloc{r x:Nat}{s:Sm}{L:List Int}(h:sET W w g r x s sv L)(o:Obj):sET W (w.alloc o) g r x s sv L:=h.below (Zq.alloc Zy _)
theorem sET.put{r x:Nat}{s:Sm}{L M:List Int}(h:sET W w g r x s sv L)(hs:Blk w' x (u8s M))(ho:Only (fun k=>k=x) w w'):sET W w' g r x s sv M :=
 ⟨⟨h.es.sm.only ho (by have:=h.rx;have:=h.es.gr;omega),h.es.res.only ho (by have:=h.rx;omega),h.es.bel.trans (ho.below h.es.bel.size (fun k hk=>by have:=h.es.g0;have:=h.es.gr;have:=h.rx;omega)),h.es.g0,h.es.gr⟩,hs,h.rx⟩
theorem sET.set{r x:Nat}{s:Sm}{L:List Int}(h:sET W w g r x s sv L)(i:Nat)(v:Int):sET W (w.setCell ⟨x,i,none⟩ (.int .u8 v)) g r x s sv (L.set i v) :=
 h.put (by have:=h.sec.set i (.int .u8 v);rwa [←List.map_set] at this) ((Only.refl (fun k=>k=x) w).setCell (p:=⟨x,i,none⟩) (.inl rfl) _)
theorem Qu{L:List Int}(h:i<L.length):(u8s L)[i]? = some (.int .u8 (L.getD i 0)):=by
 rw [List.getElem?_map,List.getD_eq_getElem?_getD,List.getElem?_eq_getElem h];rfl
def YW(s:Sm)(k:Nat):List Int:=83::bit s.more::((le 4 s.seq).take k++zeros (62-k))
def qQ(s:Sm)(k:Nat):List Int:=s.pre++(flat (s.marks.take k)++zeros (57-2*k))
theorem Kr(s:Sm)(k:Nat)(h:k≤4):(YW s k).length=64:=by
 simp only [YW,List.length_cons,List.length_append,List.length_take,J7,J1];omega
theorem J87(s:Sm):YW s 0=83::bit s.more::zeros 62:=rfl
theorem J88(s:Sm):(YW s 0).set 2 (s.seq%256)=YW s 1:=rfl
theorem J89(s:Sm):(YW s 1).set 3 (s.seq/256%256)=YW s 2:=rfl
theorem J8a(s:Sm):(YW s 2).set 4 (s.seq/65536%256)=YW s 3:=by
 rw [show s.seq/65536=s.seq/256/256 by omega];rfl
theorem J8b(s:Sm):(YW s 3).set 5 (s.seq/16777216%256)=YW s 4:=by
 rw [show s.seq/16777216=s.seq/256/256/256 by omega];rfl
theorem J8c(s:Sm):(YW s 4).set 6 (s.marks.length:Int)=qQ s 0:=rfl
theorem XA(s:Sm)(k:Nat)(hk:k≤s.marks.length)(h:k≤24):(qQ s k).length=64:=by
 simp only [qQ,List.length_append,QJ,Ka,List.length_take,J1];omega
theorem yW(s:Sm):qQ s s.marks.length=s.enc:=by simp [qQ,Sm.enc]
theorem J3s(s:Sm)(X:List Int)(j:Nat)(v:Int):(s.pre++X).set (7+j) v=s.pre++X.set j v:=by
 rw [List.set_append_right _ _ (by rw [QJ];omega),QJ,show 7+j-7=j by omega]
theorem x9{s:Sm}{m:Mk}(hm:s.marks[k]? = some m)(h:k<24):((qQ s k).set (7+k*2) m.1).set (7+k*2+1) m.2=qQ s (k+1):=by
 have hk:k<s.marks.length:=(Zg hm).1;have hz:zeros (57-2*k)=0::0::zeros (57-2*(k+1)):=by
  rw [show 57-2*k=(57-2*(k+1))+1+1 by omega];rfl
 have hf:(flat (s.marks.take k)).length=2*k:=by rw [Ka,List.length_take];omega
 unfold qQ;rw [hz,J58 hm,J3s,show 7+k*2+1=7+(k*2+1) by omega,J3s];congr 1;rw [List.set_append_right _ _ (by omega),List.set_append_right _ _ (by omega),hf,show k*2-2*k=0 by omega,show k*2+1-2*k=1 by omega];simp
theorem J8d:Tryz.prog.built 36 [(0,.int .u8 83)]=some (u8s (83::zeros 63)).toArray:=by kernel_rfl
theorem yX(w:World):(Instr.build 36 #[(0,.int .u8 83)]).run Tryz.prog w=.ok (.agg (u8s (83::zeros 63)).toArray) w:=run_build w 36 _ _ J8d
theorem J14(s:Sm)(sv:Value)(hl:s.marks.length≤1000000)(w:World)(h:MarksAt w sv s.marks)(hg:s.good=false):Calls Tryz.prog 160 #[.agg #[.int .u32 s.seq,.bool s.more,sv]] w (Zr w (.tuple #[.agg (u8s (zeros 64)).toArray,.int .i64 11])):=by
 have HM:=Zh h;have HG:=Zh hg;clear h hg;go_enter Tryz.func160,Tryz.ntmps160
 repeat (first|(with_reducible refine JO (id:=0) ?_)|go_values|go_skip|go_guarded|go_step|go_upon|go_back)
 refine Stop.mk (wp_region_lit ?_);refine JV rfl rfl ?_;intro wA hA hB hl1;refine nm ?_;refine J4 Kd rfl ?_;intro wB hR hB2 hl2;refine nm ?_;have H0:Hid (sES w wB w.heap.size wA.heap.size s sv):=Zh ⟨hA.below hB2 hl1,hR,hB.trans (hB2.mono hB.size),Nat.le_refl _,hl1⟩;have HM0:=Zh (HM.below H0.bel);have HG1:=Zh fun w' (h':MarksAt w' sv s.marks)=>Y5 sv s.marks hl w' h';clear hA hB hl1 hR hB2 hl2;generalize hgg:w.heap.size=g at *;generalize hrr:wA.heap.size=r at *;have HGG:=Zh hgg;clear hgg hrr wA;refine tk (.int .i64 0) ?_;refine Zn ?_;have c2:=H0.sm.cell (i:=2) rfl
 go_wp2_with fail
 refine (HG1.out _ HM0.out).mono ?_;rintro e w1 ⟨rfl,hb⟩;have H1:=Zh (H0.below hb);have HM1:=Zh (HM0.below hb);clear hb H0 HM0 c2 HG1;rw [show Ju s.marks=false from HG.out];go_upto_region 2 with fail;refine Zl ?_;refine Ji (build36 _) rfl ?_;refine nm ?_;refine J3 H1.res (by simp) (by simpa [zeros] using info36) (Jj _) rfl rfl rfl ?_;intro wZ hZ hOZ hlZ;refine nm ?_;refine tk (.int .i64 11) ?_;have HF:=Zh (H1.bel.trans (hOZ.below H1.bel.size (fun k hk=>by have:=H1.g0;have:=H1.gr;omega)));go_wp2_with fail
 refine bodyPost_ret (v:=.tuple #[.agg (u8s (zeros 64)).toArray,.int .i64 11]) (results_cell_tmp rfl _ _ r 0 _ _ _ rfl rfl Tryz.underlying36 rfl (by simpa [zeros] using info36) (hZ.all rfl)) rfl ⟨rfl,by first|exact HF.out|(rw [HGG.out];exact HF.out)⟩
theorem kf(s:Sm)(sv:Value)(hmo:s.more=true)(hq:0≤s.seq∧s.seq<4294967296)(w:World)(h:MarksAt w sv s.marks)(hg:s.good=true):Calls Tryz.prog 160 #[.agg #[.int .u32 s.seq,.bool s.more,sv]] w (Zr w (.tuple #[.agg (u8s s.enc).toArray,.int .i64 0])):=by
 have HM:=Zh h;have HG:=Zh hg;obtain⟨hn1,hn2⟩:=QU hg;have hl:s.marks.length≤1000000:=by omega
 obtain⟨hq1,hq2⟩:=hq;obtain⟨a,o,cap,hsv,_⟩:=h.has (by omega);have HMO:=Zh hmo;have HSV:=Zh hsv;clear hg h hmo hsv;go_enter Tryz.func160,Tryz.ntmps160
 repeat (first|(with_reducible refine JO (id:=0) ?_)|go_values|go_skip|go_guarded|go_step|go_upon|go_back)
 refine Stop.mk (wp_region_lit ?_);refine JV rfl rfl ?_;intro wA hA hB hl1;refine nm ?_;refine J4 Kd rfl ?_;intro wB hR hB2 hl2;refine nm ?_;have H0:Hid (sES w wB w.heap.size wA.heap.size s sv):=Zh ⟨hA.below hB2 hl1,hR,hB.trans (hB2.mono hB.size),Nat.le_refl _,hl1⟩;have HM0:=Zh (HM.below H0.bel);have HG1:=Zh fun w' (h':MarksAt w' sv s.marks)=>Y5 sv s.marks hl w' h';clear hA hB hl1 hR hB2 hl2;generalize hgg:w.heap.size=g at *;generalize hrr:wA.heap.size=r at *;have HGG:=Zh hgg;clear hgg hrr wA;refine tk (.int .i64 0) ?_;refine Zn ?_;have c2:=H0.sm.cell (i:=2) rfl
 go_wp2_with fail
 refine (HG1.out _ HM0.out).mono ?_;rintro e w1 ⟨rfl,hb⟩;have H1:=Zh (H0.below hb);have HM1:=Zh (HM0.below hb);clear hb H0 HM0 c2 HG1;rw [show Ju s.marks=true from HG.out];go_upto_region 3 with fail;refine Zl ?_;refine tk (.agg (u8s (83::zeros 63)).toArray) ?_ (hr:=(J8 _ _ _ _ 36 #[(0,.const (.int .u8 83))] rfl #[(0,.int .u8 83)] (by simp only [List.map_toArray,List.map_cons,List.map_nil];rfl) _ (yX _)));refine J4 Kd rfl ?_;intro wC hC hBC hlC;refine nm ?_;refine J3 hC (by simp [zeros]) (by simpa [zeros] using info36) (Jj _) rfl rfl rfl ?_;intro wD hD hOD hlD;refine nm ?_;have hBD:=hBC.trans (hOD.below hBC.size (fun k hk=>Nat.le_of_eq hk.symm));have H2:Hid (sET w wD g r w1.heap.size s sv (83::zeros 63)):=Zh (sET.mk (H1.below hBD) hD H1.res.lt);clear hC hBC hlC hD hOD hlD hBD HM1;generalize hss:w1.heap.size=x at *;clear hss;refine Zn ?_;have c1:=H2.es.sm.cell (i:=1) rfl;rw [HMO.out] at c1;have cb:=H2.sec.cell (i:=1) rfl;have hfro:=H2.sec.frozen 1
 go_wp2_with fail
 go_loopg [18] 4 (fun q i wr=>∃k:Nat,4-k≤q∧k≤4∧i=.int .i64 k∧sET w wr g r x s sv (YW s k))
 case atStart =>
  refine⟨0,by omega,by omega,rfl,?_⟩;have hs:=H2.set 1 1;rw [show (83::zeros 63:List Int).set 1 1=YW s 0 by rw [J87,HMO.out];rfl] at hs;exact hs
 case round =>
  obtain⟨k,hgk,hk,rfl,het⟩:=hrel;have HL:=Zh het;clear het;rcases (show k=0∨k=1∨k=2∨k=3∨k=4 by omega) with rfl|rfl|rfl|rfl|rfl
  · have c0:=HL.es.sm.cell (i:=0) rfl;have cx:=HL.sec.cell (i:=2) (Qu (by rw [Kr _ _ (by omega)];omega));have hfro:=HL.sec.frozen 2
    go_wp2_with fail
    go_roundg (4-1)
    case measure=>omega
    case rel =>
     refine⟨1,by omega,by omega,by go_num,?_⟩;have hs:=HL.set 2 (s.seq%256);rw [J88] at hs
     first|exact hs|simpa using hs|(rw [show s.seq/16777216%256=s.seq/16777216 by omega] at hs;exact hs)
  · have c0:=HL.es.sm.cell (i:=0) rfl;have cx:=HL.sec.cell (i:=3) (Qu (by rw [Kr _ _ (by omega)];omega));have hfro:=HL.sec.frozen 3
    go_wp2_with fail
    go_roundg (4-2)
    case measure=>omega
    case rel =>
     refine⟨2,by omega,by omega,by go_num,?_⟩;have hs:=HL.set 3 (s.seq/256%256);rw [J89] at hs
     first|exact hs|simpa using hs|(rw [show s.seq/16777216%256=s.seq/16777216 by omega] at hs;exact hs)
  · have c0:=HL.es.sm.cell (i:=0) rfl;have cx:=HL.sec.cell (i:=4) (Qu (by rw [Kr _ _ (by omega)];omega));have hfro:=HL.sec.frozen 4
    go_wp2_with fail
    go_roundg (4-3)
    case measure=>omega
    case rel =>
     refine⟨3,by omega,by omega,by go_num,?_⟩;have hs:=HL.set 4 (s.seq/65536%256);rw [J8a] at hs
     first|exact hs|simpa using hs|(rw [show s.seq/16777216%256=s.seq/16777216 by omega] at hs;exact hs)
  · have c0:=HL.es.sm.cell (i:=0) rfl;have cx:=HL.sec.cell (i:=5) (Qu (by rw [Kr _ _ (by omega)];omega));have hfro:=HL.sec.frozen 5
    go_wp2_with fail
    go_roundg (4-4)
    case measure=>omega
    case rel =>
     refine⟨4,by omega,by omega,by go_num,?_⟩;have hs:=HL.set 5 (s.seq/16777216%256);rw [J8b] at hs
     first|exact hs|simpa using hs|(rw [show s.seq/16777216%256=s.seq/16777216 by omega] at hs;exact hs)
  · have HM4:=Zh (HM.below HL.es.bel);rw [HSV.out] at HM4;have c2:=HL.es.sm.cell (i:=2) rfl;rw [HSV.out] at c2;have cx:=HL.sec.cell (i:=6) (Qu (by rw [Kr _ _ (by omega)];omega));have hfro:=HL.sec.frozen 6;have hn1':(1:Int)≤(s.marks.length:Int):=by omega
    have hn2':(s.marks.length:Int)≤24:=by omega
    go_wp2_with fail
    go_loopg [39] s.marks.length (fun q i wq=>∃k:Nat,s.marks.length-k≤q∧k≤s.marks.length∧i=.int .i64 k∧sET w wq g r x s sv (qQ s k))
    case atStart =>
     refine⟨0,by omega,by omega,rfl,?_⟩;have hs:=HL.set 6 s.marks.length;rw [J8c] at hs;exact hs
    case round =>
     obtain⟨k,hgk,hk,rfl,het⟩:=hrel;have HE:=Zh het;clear het HL HM4 c2 cx hfro
     by_cases hlt:k<s.marks.length
     · have hlk:s.marks[k]? = some s.marks[k]:=by simp [hlt]
       have HM5:=HM.below HE.es.bel;rw [HSV.out] at HM5;obtain⟨b',o',cap',he,hcells⟩:=HM5.has (by omega);cases he;obtain⟨c1,c2⟩:=hcells k _ hlk;have hmb:=jl HG.out _ (List.getElem_mem hlt);have HST:=Zh (x9 hlk (by omega));clear hcells HM5 hlk;generalize s.marks[k]=m at *;obtain⟨mk,mi⟩:=m;obtain⟨⟨hm1,hm2⟩,⟨hm3,hm4⟩⟩:=hmb;simp only at c1 c2 hm1 hm2 hm3 hm4;have hk0:(0:Int)≤(k:Int):=by omega
       have hk1:(k:Int)<(s.marks.length:Int):=by omega
       have hk2:(k:Int)<24:=by omega
       go_upto_region 16 with fail;have HE2:=Zh (HE.alloc (Obj.cells #[Value.int IntKind.i64 mk,Value.int IntKind.i64 mi] 79));have hnew:=Blk.new wr #[Value.int IntKind.i64 mk,Value.int IntKind.i64 mi] 79;have d1:=hnew.cell (i:=0) rfl;have d2:=hnew.cell (i:=1) rfl;have hnx:x<wr.heap.size:=HE.sec.lt;clear hnew c1 c2 HE;generalize wr.heap.size=nn at *;generalize wr.alloc (Obj.cells #[Value.int IntKind.i64 mk,Value.int IntKind.i64 mi] 79)=wn at *;have e1:=HE2.sec.cell (i:=7+k*2) (Qu (by rw [XA _ _ (by omega) (by omega)];omega));have e2:=HE2.sec.cell (i:=7+k*2+1) (Qu (by rw [XA _ _ (by omega) (by omega)];omega));have f1:=HE2.sec.frozen (7+k*2);have f2:=HE2.sec.frozen (7+k*2+1)
       go_region
       go_wp2_with fail
       go_roundg (s.marks.length-(k+1))
       case measure=>omega
       case rel =>
        refine⟨k+1,by omega,by omega,by go_num,?_⟩;have hs:=((HE2.set (7+k*2) mk).set (7+k*2+1) mi).drew;rw [HST.out] at hs;exact hs
     · have hkl:k=s.marks.length:=by omega
       subst hkl;have HE2:=HE.out;rw [yW] at HE2;have HE2:=Zh HE2;have HLN:=Zh (Xz HG.out);clear hlt HE;go_upto_region 18 with fail;refine Zl ?_;refine Qc (cs:=(u8s s.enc).toArray) (Blk.all HE2.sec rfl) (by rw [J2,HLN.out]) rfl rfl ?_;refine nm ?_;refine J3 (cs:=(u8s s.enc).toArray) HE2.es.res (by rw [J2,HLN.out];simp [zeros]) (by rw [J2,HLN.out];exact info36) (Jj _) rfl rfl rfl ?_;intro wZ hZ hOZ hlZ;refine nm ?_;have HF:=Zh (HE2.es.bel.trans (hOZ.below HE2.es.bel.size (fun k hk=>by have:=HE2.es.g0;have:=HE2.es.gr;omega)));refine tk (.int .i64 0) ?_;go_wp2_with fail
       refine bodyPost_ret (v:=.tuple #[.agg (u8s s.enc).toArray,.int .i64 0]) (results_cell_tmp rfl _ _ r 0 _ _ _ rfl rfl Tryz.underlying36 rfl (by rw [J2,HLN.out];exact info36) (hZ.all rfl)) rfl ⟨rfl,by first|exact HF.out|(rw [HGG.out];exact HF.out)⟩
theorem jm(s:Sm)(sv:Value)(hmo:s.more=false)(hq:0≤s.seq∧s.seq<4294967296)(w:World)(h:MarksAt w sv s.marks)(hg:s.good=true):Calls Tryz.prog 160 #[.agg #[.int .u32 s.seq,.bool s.more,sv]] w (Zr w (.tuple #[.agg (u8s s.enc).toArray,.int .i64 0])):=by
 have HM:=Zh h;have HG:=Zh hg;obtain⟨hn1,hn2⟩:=QU hg;have hl:s.marks.length≤1000000:=by omega
 obtain⟨hq1,hq2⟩:=hq;obtain⟨a,o,cap,hsv,_⟩:=h.has (by omega);have HMO:=Zh hmo;have HSV:=Zh hsv;clear hg h hmo hsv;go_enter Tryz.func160,Tryz.ntmps160
 repeat (first|(with_reducible refine JO (id:=0) ?_)|go_values|go_skip|go_guarded|go_step|go_upon|go_back)
 refine Stop.mk (wp_region_lit ?_);refine JV rfl rfl ?_;intro wA hA hB hl1;refine nm ?_;refine J4 Kd rfl ?_;intro wB hR hB2 hl2;refine nm ?_;have H0:Hid (sES w wB w.heap.size wA.heap.size s sv):=Zh ⟨hA.below hB2 hl1,hR,hB.trans (hB2.mono hB.size),Nat.le_refl _,hl1⟩;have HM0:=Zh (HM.below H0.bel);have HG1:=Zh fun w' (h':MarksAt w' sv s.marks)=>Y5 sv s.marks hl w' h';clear hA hB hl1 hR hB2 hl2;generalize hgg:w.heap.size=g at *;generalize hrr:wA.heap.size=r at *;have HGG:=Zh hgg;clear hgg hrr wA;refine tk (.int .i64 0) ?_;refine Zn ?_;have c2:=H0.sm.cell (i:=2) rfl
 go_wp2_with fail
 refine (HG1.out _ HM0.out).mono ?_;rintro e w1 ⟨rfl,hb⟩;have H1:=Zh (H0.below hb);have HM1:=Zh (HM0.below hb);clear hb H0 HM0 c2 HG1;rw [show Ju s.marks=true from HG.out];go_upto_region 3 with fail;refine Zl ?_;refine tk (.agg (u8s (83::zeros 63)).toArray) ?_ (hr:=(J8 _ _ _ _ 36 #[(0,.const (.int .u8 83))] rfl #[(0,.int .u8 83)] (by simp only [List.map_toArray,List.map_cons,List.map_nil];rfl) _ (yX _)));refine J4 Kd rfl ?_;intro wC hC hBC hlC;refine nm ?_;refine J3 hC (by simp [zeros]) (by simpa [zeros] using info36) (Jj _) rfl rfl rfl ?_;intro wD hD hOD hlD;refine nm ?_;have hBD:=hBC.trans (hOD.below hBC.size (fun k hk=>Nat.le_of_eq hk.symm));have H2:Hid (sET w wD g r w1.heap.size s sv (83::zeros 63)):=Zh (sET.mk (H1.below hBD) hD H1.res.lt);clear hC hBC hlC hD hOD hlD hBD HM1;generalize hss:w1.heap.size=x at *;clear hss;refine Zn ?_;have c1:=H2.es.sm.cell (i:=1) rfl;rw [HMO.out] at c1;have cb:=H2.sec.cell (i:=1) rfl;have hfro:=H2.sec.frozen 1
 go_wp2_with fail
 go_loopg [18] 4 (fun q i wr=>∃k:Nat,4-k≤q∧k≤4∧i=.int .i64 k∧sET w wr g r x s sv (YW s k))
 case atStart =>
  refine⟨0,by omega,by omega,rfl,?_⟩;have hs:=H2.out;rw [show (83::zeros 63:List Int)=YW s 0 by rw [J87,HMO.out];rfl] at hs;exact hs
 case round =>
  obtain⟨k,hgk,hk,rfl,het⟩:=hrel;have HL:=Zh het;clear het;rcases (show k=0∨k=1∨k=2∨k=3∨k=4 by omega) with rfl|rfl|rfl|rfl|rfl
  · have c0:=HL.es.sm.cell (i:=0) rfl;have cx:=HL.sec.cell (i:=2) (Qu (by rw [Kr _ _ (by omega)];omega));have hfro:=HL.sec.frozen 2
    go_wp2_with fail
    go_roundg (4-1)
    case measure=>omega
    case rel =>
     refine⟨1,by omega,by omega,by go_num,?_⟩;have hs:=HL.set 2 (s.seq%256);rw [J88] at hs
     first|exact hs|simpa using hs|(rw [show s.seq/16777216%256=s.seq/16777216 by omega] at hs;exact hs)
  · have c0:=HL.es.sm.cell (i:=0) rfl;have cx:=HL.sec.cell (i:=3) (Qu (by rw [Kr _ _ (by omega)];omega));have hfro:=HL.sec.frozen 3
    go_wp2_with fail
    go_roundg (4-2)
    case measure=>omega
    case rel =>
     refine⟨2,by omega,by omega,by go_num,?_⟩;have hs:=HL.set 3 (s.seq/256%256);rw [J89] at hs
     first|exact hs|simpa using hs|(rw [show s.seq/16777216%256=s.seq/16777216 by omega] at hs;exact hs)
  · have c0:=HL.es.sm.cell (i:=0) rfl;have cx:=HL.sec.cell (i:=4) (Qu (by rw [Kr _ _ (by omega)];omega));have hfro:=HL.sec.frozen 4
    go_wp2_with fail
    go_roundg (4-3)
    case measure=>omega
    case rel =>
     refine⟨3,by omega,by omega,by go_num,?_⟩;have hs:=HL.set 4 (s.seq/65536%256);rw [J8a] at hs
     first|exact hs|simpa using hs|(rw [show s.seq/16777216%256=s.seq/16777216 by omega] at hs;exact hs)
  · have c0:=HL.es.sm.cell (i:=0) rfl;have cx:=HL.sec.cell (i:=5) (Qu (by rw [Kr _ _ (by omega)];omega));have hfro:=HL.sec.frozen 5
    go_wp2_with fail
    go_roundg (4-4)
    case measure=>omega
    case rel =>
     refine⟨4,by omega,by omega,by go_num,?_⟩;have hs:=HL.set 5 (s.seq/16777216%256);rw [J8b] at hs
     first|exact hs|simpa using hs|(rw [show s.seq/16777216%256=s.seq/16777216 by omega] at hs;exact hs)
  · have HM4:=Zh (HM.below HL.es.bel);rw [HSV.out] at HM4;have c2:=HL.es.sm.cell (i:=2) rfl;rw [HSV.out] at c2;have cx:=HL.sec.cell (i:=6) (Qu (by rw [Kr _ _ (by omega)];omega));have hfro:=HL.sec.frozen 6;have hn1':(1:Int)≤(s.marks.length:Int):=by omega
    have hn2':(s.marks.length:Int)≤24:=by omega
    go_wp2_with fail
    go_loopg [39] s.marks.length (fun q i wq=>∃k:Nat,s.marks.length-k≤q∧k≤s.marks.length∧i=.int .i64 k∧sET w wq g r x s sv (qQ s k))
    case atStart =>
     refine⟨0,by omega,by omega,rfl,?_⟩;have hs:=HL.set 6 s.marks.length;rw [J8c] at hs;exact hs
    case round =>
     obtain⟨k,hgk,hk,rfl,het⟩:=hrel;have HE:=Zh het;clear het HL HM4 c2 cx hfro
     by_cases hlt:k<s.marks.length
     · have hlk:s.marks[k]? = some s.marks[k]:=by simp [hlt]
       have HM5:=HM.below HE.es.bel;rw [HSV.out] at HM5;obtain⟨b',o',cap',he,hcells⟩:=HM5.has (by omega);cases he;obtain⟨c1,c2⟩:=hcells k _ hlk;have hmb:=jl HG.out _ (List.getElem_mem hlt);have HST:=Zh (x9 hlk (by omega));clear hcells HM5 hlk;generalize s.marks[k]=m at *;obtain⟨mk,mi⟩:=m;obtain⟨⟨hm1,hm2⟩,⟨hm3,hm4⟩⟩:=hmb;simp only at c1 c2 hm1 hm2 hm3 hm4;have hk0:(0:Int)≤(k:Int):=by omega
       have hk1:(k:Int)<(s.marks.length:Int):=by omega
       have hk2:(k:Int)<24:=by omega
       go_upto_region 16 with fail;have HE2:=Zh (HE.alloc (Obj.cells #[Value.int IntKind.i64 mk,Value.int IntKind.i64 mi] 79));have hnew:=Blk.new wr #[Value.int IntKind.i64 mk,Value.int IntKind.i64 mi] 79;have d1:=hnew.cell (i:=0) rfl;have d2:=hnew.cell (i:=1) rfl;have hnx:x<wr.heap.size:=HE.sec.lt;clear hnew c1 c2 HE;generalize wr.heap.size=nn at *;generalize wr.alloc (Obj.cells #[Value.int IntKind.i64 mk,Value.int IntKind.i64 mi] 79)=wn at *;have e1:=HE2.sec.cell (i:=7+k*2) (Qu (by rw [XA _ _ (by omega) (by omega)];omega));have e2:=HE2.sec.cell (i:=7+k*2+1) (Qu (by rw [XA _ _ (by omega) (by omega)];omega));have f1:=HE2.sec.frozen (7+k*2);have f2:=HE2.sec.frozen (7+k*2+1)
       go_region
       go_wp2_with fail
       go_roundg (s.marks.length-(k+1))
       case measure=>omega
       case rel =>
        refine⟨k+1,by omega,by omega,by go_num,?_⟩;have hs:=((HE2.set (7+k*2) mk).set (7+k*2+1) mi).drew;rw [HST.out] at hs;exact hs
     · have hkl:k=s.marks.length:=by omega
       subst hkl;have HE2:=HE.out;rw [yW] at HE2;have HE2:=Zh HE2;have HLN:=Zh (Xz HG.out);clear hlt HE;go_upto_region 18 with fail;refine Zl ?_;refine Qc (cs:=(u8s s.enc).toArray) (Blk.all HE2.sec rfl) (by rw [J2,HLN.out]) rfl rfl ?_;refine nm ?_;refine J3 (cs:=(u8s s.enc).toArray) HE2.es.res (by rw [J2,HLN.out];simp [zeros]) (by rw [J2,HLN.out];exact info36) (Jj _) rfl rfl rfl ?_;intro wZ hZ hOZ hlZ;refine nm ?_;have HF:=Zh (HE2.es.bel.trans (hOZ.below HE2.es.bel.size (fun k hk=>by have:=HE2.es.g0;have:=HE2.es.gr;omega)));refine tk (.int .i64 0) ?_;go_wp2_with fail
       refine bodyPost_ret (v:=.tuple #[.agg (u8s s.enc).toArray,.int .i64 0]) (results_cell_tmp rfl _ _ r 0 _ _ _ rfl rfl Tryz.underlying36 rfl (by rw [J2,HLN.out];exact info36) (hZ.all rfl)) rfl ⟨rfl,by first|exact HF.out|(rw [HGG.out];exact HF.out)⟩
set_option linter.unusedVariables false in
theorem Ys (s:Sm) (sv:Value) (hl:s.marks.length≤1000000) (hw:s.Wf) (w:World) (h:MarksAt w sv s.marks):Calls Tryz.prog 160 #[.agg #[.int .u32 s.seq,.bool s.more,sv]] w (Zr w (.tuple #[.agg (u8s s.sec).toArray,.int .i64 s.err])):=by
 unfold Sm.sec Sm.err;cases hg:s.good with
 | false=>exact J14 s sv hl w h hg
 | true =>
  cases hm:s.more with
  | false=>have:=jm s sv hm hw.seq w h hg;rw [hm] at this;exact this
  | true=>have:=kf s sv hm hw.seq w h hg;rw [hm] at this;exact this
theorem J8e:(Tryz.prog.info? 79).map (fun i=>(i.zero,i.size,i.bytes))=some (some (.agg #[.int .i64 0,.int .i64 0]),2,16):=by kernel_rfl
theorem Xc(n:Nat):(madeCells (#[.int .i64 0,.int .i64 0]:Array Value) (n*2)).toList=Jq (zeros (n*2)):=by
 unfold madeCells;apply List.ext_getElem?;intro i
 by_cases h:i<n*2
 · have h2:i%2=0∨i%2=1:=by omega
   rcases h2 with h2|h2 <;> simp [zeros,h,h2]
 · simp [zeros,h]
theorem MarksAt.of_row{l:List Mk}(h:Blk w m (Jq (flat l)))(hn:l.length=n):MarksAt w (.slice (some ⟨m,0,none⟩) n cap) l:=by
 subst hn;refine⟨_,cap,rfl,fun i y hy=>⟨m,0,rfl,?_,?_⟩⟩
 · rw [Nat.zero_add];exact h.cell (by rw [List.getElem?_map,Nat.mul_comm,kP,hy];rfl)
 · rw [Nat.zero_add];exact h.cell (by rw [List.getElem?_map,Nat.mul_comm,kQ,hy];rfl)
theorem Blk.inv{l:List Value}(h:Blk w b l)(hi:w.cell? ⟨b,i,none⟩=some v):l[i]? = some v:=by
 by_cases hl:i<l.length
 · have:=h.cell (List.getElem?_eq_getElem hl);rw [this] at hi;rw [List.getElem?_eq_getElem hl,←hi]
 · obtain⟨t,ht⟩:=h;exfalso;simp [World.cell?,ht,hl] at hi
theorem xa(h:w'.heap[b]? = w.heap[b]?):w'.cell? ⟨b,i,none⟩=w.cell? ⟨b,i,none⟩:=by simp [World.cell?,h]
def J8f(L:List Value):Prop:=∀i n m,L[i]? = some (.int .i64 n)→L[i+1]? = some (.int .i64 m)→False
theorem MarksAt.only{l:List Mk}{t:Nat}(h:MarksAt w sv l)(ho:Only (fun k=>k=t) w w')(ht:Blk w t L)(hL:J8f L):MarksAt w' sv l:=by
 obtain⟨a,cap,e,hc⟩:=h;refine⟨a,cap,e,fun i x hx=>?_⟩;obtain⟨b,o,e2,h1,h2⟩:=hc i x hx;have hb:b≠t:=by
  rintro rfl;exact hL _ _ _ (ht.inv h1) (ht.inv h2)
 refine⟨b,o,e2,?_,?_⟩
 · rw [←h1];exact xa (ho.block b (block_lt_of_cell h1) hb)
 · rw [←h2];exact xa (ho.block b (block_lt_of_cell h2) hb)
def OwnM(w:World)(B:Nat)(sv:Value)(l:List Mk):Prop:=w.ownsRow B 79 2 sv l.length (Jq (flat l))
theorem OwnM.marks{l:List Mk}(h:OwnM w B sv l):MarksAt w sv l:=by
 rcases h.2 with ⟨rfl,h0⟩|⟨g,cap,cur,rfl,hb,hg,hn,hm,hs,ht⟩
 · have:l=[]:=List.eq_nil_of_length_eq_zero h0;subst this;exact MarksAt.nil _ _ _
 · refine⟨_,cap,rfl,fun i x hx=>⟨g,0,rfl,?_,?_⟩⟩
   · have hi:=(Zg hx).1;rw [Nat.zero_add,World.ownsRow.cellAt h (i*2) (by omega),List.getElem?_map,Nat.mul_comm,kP,hx];rfl
   · have hi:=(Zg hx).1;rw [Nat.zero_add,World.ownsRow.cellAt h (i*2+1) (by omega),List.getElem?_map,Nat.mul_comm,kQ,hx];rfl
theorem Jix:∃i,Tryz.prog.info? 79=some i∧i.zero=some (.agg #[.int .i64 0,.int .i64 0])∧i.size=2∧i.bytes=16:=by
 have:=J8e;cases hq:Tryz.prog.info? 79 with
 | none=>simp [hq] at this
 | some i=>simp [hq] at this;exact⟨i,rfl,this⟩
theorem OwnM.lit(w:World)(B:Nat)(hB:B≤w.heap.size)(l:List Mk)(hl:l.length≤1000000)(cs:Array Value)(hc:cs=(Jq (flat l)).toArray):OwnM (w.alloc (.cells cs 79)) B (.slice (some ⟨w.heap.size,0,none⟩) l.length l.length) l:=by
 subst hc;refine⟨by rw [List.length_map,Ka];omega,.inr ⟨w.heap.size,l.length,_,rfl,hB,heap_alloc_new w _,Nat.le_refl _,by simp only [maxLen];omega,by simp [Ka];omega,List.take_of_length_le (by simp [Ka];omega)⟩⟩
variable {B b c cap g i j n:Nat} {cs:Array Value} {l:List Int} {sv tv:Value} {t:TypeId} {w w':World}
structure It where
 mark:Mk
 blk:Bk
structure It.Wf (x:It):Prop where
 k:Jh x.mark.1
 i:Jh x.mark.2
 b:x.blk.Wf
def It.has(x:It):Bool:=JE x.mark.1
def Kt(m:Mk):Int:=if m.1=3 then 64+m.2 else m.2
def Bk.isZ(b:Bk):Bool:=decide (b.kind=0)&&decide (b.id=0)&&decide (b.page=zeros 32)&&decide (b.off=0)&&decide (b.bytes.length=0)&&decide (b.prev=0)&&decide (b.heads=zeros 8)
def It.fits(x:It):Bool:=if x.has then decide (x.blk.kind=x.mark.1)&&decide (x.blk.id=x.mark.2)&&x.blk.good else x.blk.isZ
def It.ok(x:It):Bool:=Kf x.mark&&x.fits
abbrev Xd(l:List It):List Int:=l.map fun x=>Kt x.mark
def JH(l:List It):Bool:=decide (1≤l.length)&&decide (l.length≤64)&&l.all It.ok&&decide (Xd l).Nodup
theorem JK{l:List It}:JH l=true↔1≤l.length∧l.length≤64∧(∀x∈l,x.ok=true)∧(Xd l).Nodup:=by
 simp [JH,and_assoc]
theorem J3t{x:It}(h:x.ok=true):Kf x.mark=true:=by
 simp only [It.ok,Bool.and_eq_true] at h;exact h.1
theorem J15{m:Mk}(h:Kf m=true):0≤Kt m∧Kt m<72:=by
 have:=KQ.1 h;unfold Kt;split <;> omega
def parts(n:Nat):Nat:=(n+23)/24
abbrev marks(l:List It):List Mk:=l.map It.mark
def M32:Int:=4294967296
abbrev Qe(l:List It)(k:Nat):List It:=(l.drop (24*k)).take 24
def JN(n:Int)(more:Bool)(p:List It):List Int:=Sm.sec ⟨n,more,marks p⟩
abbrev St:=List (List Int)×List Int
def KZ(n:Int)(st:St)(x:It):St:=if x.has then (st.1++[x.blk.sec n],st.2++[(st.1.length:Int)]) else (st.1,st.2++[-1])
def Xe(n:Int)(more:Bool)(p:List It)(st:St):St:=p.foldl (KZ n) (st.1++[JN n more p],st.2)
def Js(n:Int)(l:List It):Nat→St
 | 0=>([],[])
 | k+1=>Xe ((n+k)%M32) (decide (24*k+24<l.length)) (Qe l k) (Js n l k)
def Jd(n:Int)(l:List It):St:=Js n l (parts l.length)
def Ku(n:Int)(p:List It):List (List Int):=(p.filter It.has).map fun x=>x.blk.sec n
def XJ(n:Int)(more:Bool)(p:List It):List (List Int):=JN n more p::Ku n p
def XR:Nat→List It→List Int
 | _,[]=>[]
 | c,x::r=>if x.has then (c:Int)::XR (c+1) r else -1::XR c r
theorem Xf(n:Int)(p:List It)(st:St):p.foldl (KZ n) st=(st.1++Ku n p,st.2++XR st.1.length p):=by
 induction p generalizing st with
 | nil=>simp [Ku,XR]
 | cons x r ih =>
  rw [List.foldl_cons,ih];unfold KZ;cases h:x.has
  · simp [Ku,h,XR]
  · simp [Ku,h,XR]
theorem Q0(n:Int)(l:List It)(k:Nat):(Js n l (k+1)).1=(Js n l k).1++XJ ((n+k)%M32) (decide (24*k+24<l.length)) (Qe l k):=by
 rw [Js,Xe,Xf];simp [XJ]
theorem Z1(n:Int)(p:List It):(Ku n p).length=JC (marks p):=by
 induction p with
 | nil=>rfl
 | cons x r ih =>
  simp only [Ku,marks,List.map_cons,JC,List.filter_cons] at ih ⊢;cases h:x.has
  · have:JE x.mark.1=false:=h;simp [this,ih]
  · have:JE x.mark.1=true:=h;simp [this,ih];omega
theorem XK(n:Int)(m:Bool)(p:List It):(XJ n m p).length=1+JC (marks p):=by
 simp only [XJ,List.length_cons,Z1];omega
theorem Yt(c:Nat)(p:List It):(XR c p).length=p.length:=by
 induction p generalizing c with
 | nil=>rfl
 | cons x r ih=>simp only [XR];split <;> simp [ih]
theorem Xg(l:List It)(k:Nat):l.take (24*(k+1))=l.take (24*k)++Qe l k:=by
 rw [Nat.mul_add,Nat.mul_one,List.take_add]
theorem ZI(n:Int)(l:List It)(k:Nat):(Js n l k).1.length=k+JC (marks (l.take (24*k))):=by
 induction k with
 | zero=>simp [Js,JC]
 | succ k ih =>
  rw [Q0,List.length_append,ih,XK,Xg];simp only [marks,List.map_append,Z0];omega
theorem ZJ(n:Int)(l:List It)(k:Nat):(Js n l k).2.length=(l.take (24*k)).length:=by
 induction k with
 | zero=>simp [Js]
 | succ k ih =>
  rw [Js,Xe,Xf,List.length_append,Yt,ih,Xg,List.length_append]
theorem xQ{b:Bk}(w:b.Wf)(n:Int):Sc (b.sec n):=by
 unfold Bk.sec;split
 · rename_i h
   exact Jgq h w n
 · exact⟨J1 64,K8 64⟩
def Kh(n:Int):Prop:=0≤n∧n<M32
theorem YN(n:Int):Kh (n%M32):=⟨Int.emod_nonneg _ (by decide),Int.emod_lt_of_pos _ (by decide)⟩
theorem Qo{l:List It}(h:JH l=true):1≤parts l.length∧parts l.length≤3:=by
 obtain⟨h1,h2,-⟩:=JK.1 h;unfold parts;omega
def It.cells(x:It)(sv:Value):List Value:=.int .i64 x.mark.1::.int .i64 x.mark.2::x.blk.cells sv
def It.arr(x:It)(sv:Value):Array Value:=(x.cells sv).toArray
theorem It.cells_length{x:It}(h:x.Wf)(sv:Value):(x.cells sv).length=47:=by simp [It.cells,Bk.cells_length h.b]
theorem It.arr_size{x:It}(h:x.Wf)(sv:Value):(x.arr sv).size=47:=by simpa [It.arr] using x.cells_length h sv
def It.none:It:=⟨(0,0),Bk.none⟩
theorem It.none_wf:It.none.Wf:=⟨K7,K7,Go.Proofs.YtdbfmikeaoaebaaGreatDoor.none_wf⟩
theorem Qp(h:Len sv n):sv.oneCell'=true:=by
 obtain⟨a,c,rfl⟩:=h;rfl
theorem Bk.arr_one{b:Bk}(h:sv.oneCell'=true):∀v∈b.arr sv,v.oneCell'=true:=fun v hv=>by
 simp only [Bk.arr,Bk.cells,List.mem_toArray,List.mem_cons,List.mem_append,List.mem_map] at hv;rcases hv with rfl|rfl|⟨z,_,rfl⟩|rfl|rfl|rfl|⟨z,_,rfl⟩ <;> first|rfl|exact h
theorem It.arr_one{x:It}(h:sv.oneCell'=true):∀v∈x.arr sv,v.oneCell'=true:=fun v hv=>by
 simp only [It.arr,It.cells,List.mem_toArray,List.mem_cons] at hv;rcases hv with rfl|rfl|hv
 · rfl
 · rfl
 · exact Bk.arr_one (b:=x.blk) h v (by simpa [Bk.arr] using hv)
theorem At.below{off:Nat}(h:At w g off cs)(hb:Below B w w')(hg:g<B):At w' g off cs:=fun j hj=>(hb.cell (p:=⟨g,off+j,Option.none⟩) hg).trans (h j hj)
theorem At.lt{off:Nat}(h:At w g off cs)(hc:0<cs.size):g<w.heap.size:=by
 have:=h 0 hc;exact block_lt_of_cell this
structure ItAt (w:World) (g off:Nat) (x:It) (sv:Value):Prop where
 all:At w g off (x.arr sv)
 c0:w.cell? ⟨g,off,Option.none⟩=some (.int .i64 x.mark.1)
 c1:w.cell? ⟨g,off+1,Option.none⟩=some (.int .i64 x.mark.2)
 blk:At w g (off+2) (x.blk.arr sv)
theorem ItAt.of{off:Nat}{x:It}(h:At w g off (x.arr sv)):ItAt w g off x sv:=by
 refine⟨h,?_,?_,fun j hj=>?_⟩
 · have:=h 0 (by simp [It.arr,It.cells]);simpa [It.arr,It.cells] using this
 · have:=h 1 (by simp [It.arr,It.cells]);simpa [It.arr,It.cells] using this
 · have h2:j<(x.blk.cells sv).length:=by simpa [Bk.arr] using hj
   have:=h (j+2) (by simp [It.arr,It.cells];omega);rw [show off+(j+2)=off+2+j by omega] at this;rw [this];simp [It.arr,It.cells,Bk.arr]
theorem ItAt.below{off:Nat}{x:It}(h:ItAt w g off x sv)(hb:Below B w w')(hg:g<B):ItAt w' g off x sv:=ItAt.of (h.all.below hb hg)
def ItemsAt(w:World)(sv:Value)(l:List (It×Value)):Prop:=∃a cap,sv=.slice a l.length cap∧l.length≤cap∧∀i x,l[i]? = some x→x.1.Wf∧BytesAt w x.2 x.1.blk.bytes∧∃g o,a=some ⟨g,o,Option.none⟩∧At w g (o+i*47) (x.1.arr x.2)
theorem ItemsAt.below{l:List (It×Value)}(h:ItemsAt w sv l)(hb:Below w.heap.size w w'):ItemsAt w' sv l:=by
 obtain⟨a,cap,e,hcap,hc⟩:=h;refine⟨a,cap,e,hcap,fun i x hx=>?_⟩;obtain⟨h1,h2,g,o,h3,h4⟩:=hc i x hx;exact⟨h1,h2.below hb,g,o,h3,h4.below hb (h4.lt (by rw [It.arr_size h1];decide))⟩
theorem ItemsAt.nil(w:World)(a:Option Addr)(cap:Nat):ItemsAt w (.slice a 0 cap) []:=⟨a,cap,rfl,Nat.zero_le _,fun i x h=>by simp at h⟩
theorem ItemsAt.wf{l:List (It×Value)}(h:ItemsAt w sv l):∀b∈l.map (·.1),b.Wf:=fun b hb=>by
 obtain⟨a,cap,e,-,hc⟩:=h;obtain⟨x,hx,rfl⟩:=List.mem_map.1 hb;obtain⟨i,hi⟩:=List.getElem?_of_mem hx;exact (hc i x hi).1
theorem ItemsAt.bytes{l:List (It×Value)}(h:ItemsAt w sv l):∀x∈l,x.1.Wf∧BytesAt w x.2 x.1.blk.bytes:=fun x hx=>by
 obtain⟨a,cap,e,-,hc⟩:=h;obtain⟨i,hi⟩:=List.getElem?_of_mem hx;exact⟨(hc i x hi).1,(hc i x hi).2.1⟩
theorem ItemsAt.has{l:List (It×Value)}(h:ItemsAt w sv l)(hl:0<l.length):∃g o cap,sv=.slice (some ⟨g,o,Option.none⟩) l.length cap∧l.length≤cap∧g<w.heap.size∧∀i x,l[i]? = some x→x.1.Wf∧BytesAt w x.2 x.1.blk.bytes∧At w g (o+i*47) (x.1.arr x.2):=by
 obtain⟨a,cap,e,hcap,hc⟩:=h;obtain⟨h1,-,g,o,h3,h4⟩:=hc 0 l[0] (by simp [hl]);refine⟨g,o,cap,by rw [e,h3],hcap,h4.lt (by rw [It.arr_size h1];decide),fun i x hx=>?_⟩;obtain⟨k1,k2,g',o',k3,k4⟩:=hc i x hx;rw [h3] at k3;cases k3;exact⟨k1,k2,k4⟩
def Jg(l:List (It×Value)):List Value:=l.flatMap fun x=>x.1.cells x.2
theorem Qv{l:List (It×Value)}(h:∀x∈l,x.1.Wf):(Jg l).length=l.length*47:=by
 induction l with
 | nil=>rfl
 | cons x r ih =>
  have h1:=ih fun y hy=>h y (List.mem_cons_of_mem _ hy);have h2:=x.1.cells_length (h x (by simp)) x.2;simp only [Jg,List.flatMap_cons,List.length_append,List.length_cons] at h1 h2 ⊢;omega
theorem Xh{l:List (It×Value)}(h:∀x∈l,x.1.Wf)(hj:j<47):(Jg l)[i*47+j]? = (l[i]?).bind fun x=>(x.1.cells x.2)[j]? := by
 induction l generalizing i with
 | nil=>simp [Jg]
 | cons x r ih =>
  have hl:=x.1.cells_length (h x (by simp)) x.2;have ih:=fun {i}=>ih (i:=i) fun y hy=>h y (List.mem_cons_of_mem _ hy);simp only [Jg,List.flatMap_cons] at ih ⊢;cases i with
  | zero =>
   rw [Nat.zero_mul,Nat.zero_add,List.getElem?_append_left (by omega)];rfl
  | succ i =>
   rw [List.getElem?_append_right (by omega),hl,show (i+1)*47+j-47=i*47+j by omega,ih];rfl
theorem yY{l:List (It×Value)}(h:∀x∈l,x.2.oneCell'=true):∀v∈Jg l,v.oneCell'=true:=fun v hv=>by
 obtain⟨x,hx,hv⟩:=List.mem_flatMap.1 hv;exact It.arr_one (h x hx) v (by simpa [It.arr] using hv)
def Off(g:Option Nat)(sv:Value)(l:List Int):Prop:=0<l.length→∀b o n c,sv=.slice (some ⟨b,o,Option.none⟩) n c→some b≠g
theorem Off.fresh{g:Option Nat}(h:Fresh B sv)(hg:∀k,g=some k→k<B):Off g sv l:=fun _ b o n c e hn=>by
 have h1:=h b o n c e;have h2:=hg b hn.symm;omega
theorem J16{row:Option Nat}(h:BytesAt w sv l)(k:Off row sv l)(hb:∀b,b<w.heap.size→some b≠row→w'.heap[b]? = w.heap[b]?):BytesAt w' sv l:=by
 obtain⟨a,cap,e,hc⟩:=h;refine⟨a,cap,e,fun i x hx=>?_⟩;obtain⟨b,o,e2,hx2⟩:=hc i x hx;have hne:some b≠row:=k (by have:=(Zg hx).1;omega) b o _ _ (by rw [e,e2]);refine⟨b,o,e2,?_⟩;rw [←hx2];simp only [World.cell?,hb b (block_lt_of_cell hx2) hne]
theorem Off.moved{row row':Option Nat}(h:BytesAt w sv l)(k:Off row sv l)(hr:row'=row∨row'=some w.heap.size):Off row' sv l:=fun hp b o n c e=>by
 rcases hr with rfl|rfl
 · exact k hp b o n c e
 · have:=h.lt hp e;intro h2;have:=Option.some.inj h2;omega
structure OwnI (w:World) (B:Nat) (sv:Value) (l:List (It×Value)):Prop where
 row:w.ownsRow B 84 47 sv l.length (Jg l)
 all:∀x∈l,x.1.Wf∧BytesAt w x.2 x.1.blk.bytes∧Off sv.ownBlock x.2 x.1.blk.bytes
theorem OwnI.nil(w:World)(B:Nat):OwnI w B (.slice Option.none 0 0) []:=⟨World.ownsRow_nil w B 84 47,fun x hx=>by cases hx⟩
theorem OwnI.items{l:List (It×Value)}(h:OwnI w B sv l):ItemsAt w sv l:=by
 have hr:=h.row;rcases hr.2 with ⟨rfl,h0⟩|⟨g,cap,cur,rfl,hb,hg,hn,hm,hs,ht⟩
 · have:l=[]:=List.eq_nil_of_length_eq_zero h0;subst this;exact ItemsAt.nil _ _ _
 · refine⟨_,cap,rfl,hn,fun i x hx=>?_⟩;obtain⟨h1,h2,-⟩:=h.all x (List.mem_of_getElem? hx);refine⟨h1,h2,g,0,rfl,fun j hj=>?_⟩;have hi:=(Zg hx).1;rw [It.arr_size h1] at hj;rw [Nat.zero_add,World.ownsRow.cellAt hr (i*47+j) (by omega),Xh (fun y hy=>(h.all y hy).1) hj,hx];show (x.1.cells x.2)[j]? = _;rw [List.getElem?_eq_getElem (by rw [It.cells_length h1];exact hj)];rfl
theorem OwnI.lt{l:List (It×Value)}(h:OwnI w B sv l):∀k,sv.ownBlock=some k→B≤k∧k<w.heap.size:=World.ownsRow.lt h.row
theorem OwnI.len{l:List (It×Value)}(h:OwnI w B sv l):∃a c,sv=.slice a l.length c∧l.length≤c:=by
 rcases h.row.2 with ⟨e,h0⟩|⟨g,cap,cur,e,_,_,hn,_⟩
 · exact⟨Option.none,0,by rw [e,h0],by omega⟩
 · exact⟨_,cap,e,hn⟩
theorem OwnI.below{l:List (It×Value)}(h:OwnI w B sv l)(hb:Below w.heap.size w w'):OwnI w' B sv l:=by
 refine⟨⟨h.row.1,?_⟩,fun x hx=>?_⟩
 · rcases h.row.2 with hn|⟨g,cap,cur,e,hB,hg,r⟩
   · exact .inl hn
   · exact .inr ⟨g,cap,cur,e,hB,(hb.block g (Array.getElem?_eq_some_iff.1 hg).1).trans hg,r⟩
 · obtain⟨h1,h2,h3⟩:=h.all x hx;exact⟨h1,h2.below hb,h3⟩
theorem Jd0:(Tryz.prog.info? 84).map (fun i=>(i.size,i.bytes))=some (47,168):=by kernel_rfl
theorem ZK:(Tryz.prog.info? 84).bind (·.zero)=some (.agg (It.none.arr (.slice Option.none 0 0))):=by kernel_rfl
theorem J17:(Tryz.prog.info? 84).map (·.size)=some 47:=by kernel_rfl
theorem J8g:∃i,Tryz.prog.info? 84=some i∧i.zero=some (.agg (It.none.arr (.slice Option.none 0 0)))∧i.size=47∧i.bytes=168:=by
 have h1:=Jd0;have h2:=ZK;cases hq:Tryz.prog.info? 84 with
 | none=>simp [hq] at h1
 | some i=>simp [hq] at h1 h2;exact⟨i,rfl,h2,h1⟩
theorem J8h{o:Nat}{m:List (It×Value)}(hw:∀x∈m,x.1.Wf)(hc:∀i x,m[i]? = some x→At w b (o+i*47) (x.1.arr x.2))(j:Nat)(u:Value)(hu:(Jg m)[j]? = some u):w.cell? ((⟨b,o,Option.none⟩:Addr).add j)=some u:=by
 rw [show (⟨b,o,Option.none⟩:Addr).add j=⟨b,o+j,Option.none⟩ by unfold Addr.add;split <;> simp_all];have e:j=j/47*47+j%47:=by omega
 have hj:j%47<47:=Nat.mod_lt _ (by decide);rw [e,Xh hw hj] at hu;obtain⟨x,hx,hu⟩:=Option.bind_eq_some_iff.1 hu;have h1:=hc _ x hx (j%47) (by rw [It.arr_size (hw x (List.mem_of_getElem? hx))];exact hj);rw [show o+j/47*47+j%47=o+j by omega] at h1;rw [h1,←hu];rw [List.getElem?_eq_getElem (by rw [It.cells_length (hw x (List.mem_of_getElem? hx))];exact hj)];rfl
theorem J8i{l m:List (It×Value)}(h:OwnI w B sv l)(hB:B≤w.heap.size)(k:ItemsAt w tv m)(hk:∀x∈m,Off sv.ownBlock x.2 x.1.blk.bytes)(hlen:l.length+m.length≤1000)(ty:TypeId) :
 ∃sv' w',(Builtin.append_ #[74,74] ty #[sv,tv]).run Tryz.prog w=.ok sv' w'∧OwnI w' B sv' (l++m)∧w.grownBy w' sv.ownBlock∧(sv'.ownBlock=sv.ownBlock∨sv'.ownBlock=some w.heap.size):=by
 obtain⟨i,hi,hz,hs,hby⟩:=J8g;cases m with
 | nil =>
  obtain⟨a,c,rfl,hle⟩:=h.len;obtain⟨ta,tc,rfl,_⟩:=k;refine⟨_,w,run_append_nothing w 74 74 ty 84 i Tryz.underlying74 hi a l.length c hle _ ⟨.inl ⟨84,Tryz.underlying74⟩,fun _=>by rfl,?_,?_,by simp,fun u hu=>by cases hu⟩,by rw [List.append_nil];exact h,⟨rfl,rfl,rfl,Nat.le_refl _,fun _ _ _=>rfl⟩,.inl rfl⟩
  · cases ta <;> simp [Builtin.firstCells,hs,loadCells,loadCellsFrom]
  · cases ta <;> simp [Builtin.firstCells,hs,loadCells,loadCellsFrom]
 | cons x m =>
  obtain⟨b,o,c,rfl,hcap,hbl,hc⟩:=k.has (by simp);have hw:∀y∈x::m,y.1.Wf:=fun y hy=>by
   obtain⟨j,hj⟩:=List.getElem?_of_mem hy;exact (hc j y hj).1
  have hby2:∀y∈x::m,BytesAt w y.2 y.1.blk.bytes:=fun y hy=>by
   obtain⟨j,hj⟩:=List.getElem?_of_mem hy;exact (hc j y hj).2.1
  obtain⟨v',w',hr,h2,h3,_,h5⟩:=run_append_own_at (P:=Tryz.prog) w B 74 ty 84 i (.agg (It.none.arr (.slice Option.none 0 0))) 47 168 Tryz.underlying74 hi hz hs hby (It.arr_size It.none_wf _) (by decide) sv l.length (Jg l) h.row ⟨b,o,Option.none⟩ (x::m).length c (Jg (x::m)) (Qv hw) (J8h hw fun j y hj=>(hc j y hj).2.2) (yY fun y hy=>Qp (hby2 y hy).len) (by simp only [maxLen];omega) (by omega) hB;have hkept:∀y:It×Value,BytesAt w y.2 y.1.blk.bytes→Off sv.ownBlock y.2 y.1.blk.bytes→BytesAt w' y.2 y.1.blk.bytes∧Off v'.ownBlock y.2 y.1.blk.bytes:=fun y hy hap =>
   ⟨J16 hy hap h3.block,hap.moved hy h5⟩
  refine⟨v',w',hr,⟨?_,fun y hy=>?_⟩,h3,h5⟩
  · rw [List.length_append,show Jg (l++x::m)=Jg l++Jg (x::m) from List.flatMap_append];exact h2
  · rcases List.mem_append.1 hy with hy|hy
    · obtain⟨q1,q2,q3⟩:=h.all y hy;obtain⟨q4,q5⟩:=hkept y q2 q3;exact⟨q1,q4,q5⟩
    · obtain⟨q4,q5⟩:=hkept y (hby2 y hy) (hk y hy);exact⟨hw y hy,q4,q5⟩
theorem yZ(w:World)(l:List (It×Value))(hw:∀x∈l,x.1.Wf)(hpos:0<l.length)(hl:l.length≤1000):(Instr.buildSlice 74 l.length ((l.map fun x=>Value.agg (x.1.arr x.2)).zipIdx.map fun x=>(x.2,x.1)).toArray).run Tryz.prog w=.ok (.slice (some ⟨w.heap.size,0,Option.none⟩) l.length l.length) (w.alloc (.cells (Jg l).toArray 84)):=by
 obtain⟨i,hi,hz,hs,-⟩:=J8g;have hv:∀v∈l.map (fun x=>Value.agg (x.1.arr x.2)),v.cells.size=47:=fun v hv=>by
  obtain⟨x,hx,rfl⟩:=List.mem_map.1 hv;exact It.arr_size (hw x hx) _
 obtain⟨r,hr,hrs,hk⟩:=Go.Great.fill_dense (s:=47) (by decide) (l.map fun x=>Value.agg (x.1.arr x.2)) 0 ((Array.range (l.length*47)).map fun k=>(Value.agg (It.none.arr (.slice Option.none 0 0))).cells[k%(Value.agg (It.none.arr (.slice Option.none 0 0))).cells.size]!) hv (by simp);have hcells:r=(Jg l).toArray:=by
  apply Array.ext_getElem?;intro k;rw [hk k];simp only [List.length_map,Nat.zero_add,Nat.zero_mul,Nat.zero_le,true_and,Nat.sub_zero,List.getElem?_toArray]
  by_cases h:k<l.length*47
  · rw [if_pos h];have e:=Xh hw (i:=k/47) (j:=k%47) (Nat.mod_lt _ (by decide));rw [show k/47*47+k%47=k by omega] at e;rw [e,List.getElem?_map];cases l[k/47]? with
    | none=>rfl
    | some x=>simp [It.arr,Value.cells]
  · rw [if_neg h,List.getElem?_eq_none (by rw [Qv hw];omega)];simp;omega
 rw [←hcells];refine Go.run_buildSlice (P:=Tryz.prog) w 74 84 l.length _ r i _ Tryz.underlying74 hi hz (by rw [hs];omega) (by rw [hs];omega) ?_;rw [hs];simpa using hr
theorem OwnI.lit{l:List (It×Value)}(hw:∀x∈l,x.1.Wf)(hb:∀x∈l,BytesAt w x.2 x.1.blk.bytes)(hl:l.length≤1000):OwnI (w.alloc (.cells (Jg l).toArray 84)) w.heap.size (.slice (some ⟨w.heap.size,0,Option.none⟩) l.length l.length) l:=by
 have hlen:=Qv hw;have hbl:Below w.heap.size w (w.alloc (.cells (Jg l).toArray 84)):=Zq.alloc Zy _;refine⟨⟨hlen,.inr ⟨w.heap.size,l.length,_,rfl,Nat.le_refl _,heap_alloc_new w _,Nat.le_refl _,by simp only [maxLen];omega,by simpa using hlen,List.take_of_length_le (by simp;omega)⟩⟩,fun x hx=>⟨hw x hx,(hb x hx).below hbl,fun hpos b o n c e=>?_⟩⟩;have:=(hb x hx).lt hpos e;intro h2;have:=Option.some.inj h2;simp only at this;omega
section
variable {ops:Array Oper} {rest:List Oper} {dst:Option Tmp} {x y:Operand} {t2:TypeId} {pos:String} {after:Array Edge} {guard:Option (Nat×Bool)} {a:Act} {w:World} {Q:Exit→Act→World→Prop}
theorem kS{off:Nat}(hA:At w g off cs)(hs:cs.size=47)(hx:a.eval x=.pointer (some ⟨g,off,Option.none⟩))(hw:Region.wanted ⟨dst,.load 84 x,t2,pos,after,guard⟩ (yielded ops a.tmps)=true)(h:wpList Tryz.prog ops Q rest (a.put dst (.agg cs)) w):wpList Tryz.prog ops Q (⟨dst,.load 84 x,t2,pos,after,guard⟩::rest) a w :=
 Jc hw 84 x rfl g off hx cs _ Tryz.underlying84 rfl (by rw [hs];exact J17) hA h
theorem J8j{l m:List (It×Value)}(h:OwnI w B sv l)(hB:B≤w.heap.size)(k:ItemsAt w tv m)(hk:∀x∈m,Off sv.ownBlock x.2 x.1.blk.bytes)(hlen:l.length+m.length≤1000)(hx:a.eval x=sv)(hy:a.eval y=tv)(hw:Region.wanted ⟨dst,.call { callee:=.builtin .append,args:=#[x,y],argTypes:=#[74,74] },t2,pos,after,guard⟩ (yielded ops a.tmps)=true)(hh:∀sv' w',OwnI w' B sv' (l++m)→w.grownBy w' sv.ownBlock→(sv'.ownBlock=sv.ownBlock∨sv'.ownBlock=some w.heap.size)→wpList Tryz.prog ops Q rest (a.put dst sv') w'):wpList Tryz.prog ops Q (⟨dst,.call { callee:=.builtin .append,args:=#[x,y],argTypes:=#[74,74] },t2,pos,after,guard⟩::rest) a w:=by
 obtain⟨sv',w',hr,ho,hg,h5⟩:=J8i h hB k hk hlen t2;exact Jo sv' w' hw (Qd a.eval _ x y 74 74 rfl sv tv sv' hx hy hr) (hh sv' w' ho hg h5)
end
theorem ZL{x:It}(h:x.Wf)(sv:Value):(Tryz.prog.info? 84).map (·.size)=some (x.arr sv).size:=by rw [x.arr_size h];exact J17
theorem info82s{b:Bk}(h:b.Wf)(sv:Value):(Tryz.prog.info? 82).map (·.size)=some (b.arr sv).size:=by rw [b.arr_size h];exact Kc
theorem xR{b c:It}(h:b.Wf)(k:c.Wf)(sv cv:Value):(b.cells sv).length=(c.arr cv).size:=by rw [b.cells_length h,c.arr_size k]
theorem info3z:(Tryz.prog.info? 3).map (fun i=>(i.zero,i.size,i.bytes))=some (some (.int .i64 0),1,8):=by kernel_rfl
def IntsAt(w:World)(sv:Value)(l:List Int):Prop:=∃a cap,sv=.slice a l.length cap∧∀i x,l[i]? = some x→∃b o,a=some ⟨b,o,none⟩∧w.cell? ⟨b,o+i,none⟩=some (.int .i64 x)
theorem IntsAt.len(h:IntsAt w sv l):Len sv l.length:=let ⟨a,cap,h,_⟩:=h;⟨a,cap,h⟩
theorem IntsAt.below(h:IntsAt w sv l)(hb:Below w.heap.size w w'):IntsAt w' sv l:=by
 obtain⟨a,cap,e,hc⟩:=h;refine⟨a,cap,e,fun i x hx=>?_⟩;obtain⟨b,o,e2,hx2⟩:=hc i x hx;exact⟨b,o,e2,(hb.cell (block_lt_of_cell hx2)).trans hx2⟩
theorem IntsAt.nil(w:World)(cap:Nat)(a:Option Addr):IntsAt w (.slice a 0 cap) []:=⟨a,cap,rfl,fun i x h=>by simp at h⟩
theorem IntsAt.has(h:IntsAt w sv l)(hl:0<l.length):∃b o cap,sv=.slice (some ⟨b,o,none⟩) l.length cap∧∀i x,l[i]? = some x→w.cell? ⟨b,o+i,none⟩=some (.int .i64 x):=by
 obtain⟨a,cap,e,hc⟩:=h;obtain⟨b,o,e2,_⟩:=hc 0 l[0] (by simp [hl]);subst e2;refine⟨b,o,cap,e,fun i x hx=>?_⟩;obtain⟨b',o',e3,hx2⟩:=hc i x hx;cases e3;exact hx2
theorem IntsAt.only{t:Nat}(h:IntsAt w sv l)(ho:Only (fun k=>k=t) w w')(ht:∀b o n c,sv=.slice (some ⟨b,o,none⟩) n c→b≠t):IntsAt w' sv l:=by
 obtain⟨a,cap,e,hc⟩:=h;refine⟨a,cap,e,fun i x hx=>?_⟩;obtain⟨b,o,e2,hx2⟩:=hc i x hx;refine⟨b,o,e2,?_⟩;have hne:b≠t:=ht b o _ _ (by rw [e,e2]);have hb:=ho.block b (block_lt_of_cell hx2) hne;rw [←hx2];simp only [World.cell?,hb]
theorem IntsAt.lt(h:IntsAt w sv l)(hl:0<l.length){o:Nat}(e:sv=.slice (some ⟨b,o,none⟩) n c):b<w.heap.size:=by
 obtain⟨b',o',c',e',hc⟩:=h.has hl;rw [e] at e';cases e';exact block_lt_of_cell (hc 0 l[0] (by simp [hl]))
def OwnN(w:World)(B:Nat)(sv:Value)(l:List Int):Prop:=w.ownsRow B 3 1 sv l.length (Jq l)
theorem OwnN.nil(w:World)(B:Nat):OwnN w B (.slice none 0 0) []:=World.ownsRow_nil w B 3 1
theorem OwnN.ints(h:OwnN w B sv l):IntsAt w sv l:=by
 rcases h.2 with ⟨rfl,h0⟩|⟨g,cap,cur,rfl,hb,hg,hn,hm,hs,ht⟩
 · have:l=[]:=List.eq_nil_of_length_eq_zero h0;subst this;exact IntsAt.nil _ _ _
 · refine⟨_,cap,rfl,fun i x hx=>⟨g,0,rfl,?_⟩⟩;rw [Nat.zero_add,World.ownsRow.cellAt h i (by have:=(Zg hx).1;omega),List.getElem?_map,hx];rfl
theorem OwnN.lt(h:OwnN w B sv l):∀k,sv.ownBlock=some k→B≤k∧k<w.heap.size:=World.ownsRow.lt h
theorem OwnN.below(h:OwnN w B sv l)(hb:Below w.heap.size w w'):OwnN w' B sv l:=by
 refine⟨h.1,?_⟩;rcases h.2 with hn|⟨g,cap,cur,e,hB,hg,r⟩
 · exact .inl hn
 · exact .inr ⟨g,cap,cur,e,hB,(hb.block g (Array.getElem?_eq_some_iff.1 hg).1).trans hg,r⟩
theorem OwnN.mono{C:Nat}(h:OwnN w B sv l)(hc:C≤B):OwnN w C sv l:=World.ownsRow.mono h hc
theorem J5d:∃i,Tryz.prog.info? 3=some i∧i.zero=some (.int .i64 0)∧i.size=1∧i.bytes=8:=by
 have:=info3z;cases hq:Tryz.prog.info? 3 with
 | none=>simp [hq] at this
 | some i=>simp [hq] at this;exact⟨i,rfl,this⟩
theorem z6{m:List Int}(h:OwnN w B sv l)(hB:B≤w.heap.size)(k:IntsAt w tv m)(hlen:l.length+m.length≤1000000)(ty:TypeId) :
 ∃sv' w',(Builtin.append_ #[41,41] ty #[sv,tv]).run Tryz.prog w=.ok sv' w'∧OwnN w' B sv' (l++m)∧w.grownBy w' sv.ownBlock:=by
 obtain⟨i,hi,hz,hs,hby⟩:=J5d;cases m with
 | nil =>
  have hsl:∃a c,sv=.slice a l.length c∧l.length≤c:=by
   rcases h.2 with ⟨e,h0⟩|⟨g,cap,cur,e,_,_,hn,_⟩
   · exact⟨none,0,by rw [e,h0],by omega⟩
   · exact⟨_,cap,e,hn⟩
  obtain⟨a,c,rfl,hle⟩:=hsl;obtain⟨ta,tc,rfl,_⟩:=k;refine⟨_,w,run_append_nothing w 41 41 ty 3 i Tryz.underlying41 hi a l.length c hle _ ⟨.inl ⟨3,Tryz.underlying41⟩,fun _=>by rfl,?_,?_,by simp,fun u hu=>by cases hu⟩,by rw [List.append_nil];exact h,⟨rfl,rfl,rfl,Nat.le_refl _,fun _ _ _=>rfl⟩⟩
  · cases ta <;> simp [Builtin.firstCells,hs,loadCells,loadCellsFrom]
  · cases ta <;> simp [Builtin.firstCells,hs,loadCells,loadCellsFrom]
 | cons x m =>
  obtain⟨b,o,c,rfl,hc⟩:=k.has (by simp);obtain⟨v',w',hr,h2,h3,_⟩:=run_append_own (P:=Tryz.prog) w B 41 ty 3 i (.int .i64 0) 1 8 Tryz.underlying41 hi hz hs hby rfl (by decide) sv l.length (Jq l) h ⟨b,o,none⟩ (x::m).length c (Jq (x::m)) (by simp) (fun j u hu=>by
   rw [List.getElem?_map] at hu
   cases hz:(x::m)[j]? with
   | none=>simp [hz] at hu
   | some z =>
    simp [hz] at hu
    subst hu
    rw [show (⟨b,o,none⟩:Addr).add j=⟨b,o+j,none⟩ by unfold Addr.add;split <;> simp_all]
    exact hc j z hz) (fun u hu=>by obtain⟨z,_,rfl⟩:=List.mem_map.1 hu;rfl) (by simp only [maxLen];omega) (by omega) hB
  refine⟨v',w',hr,?_,h3⟩;unfold OwnN;rw [List.length_append,show Jq (l++x::m)=Jq l++Jq (x::m) by simp];exact h2
theorem OwnN.lit(w:World)(B:Nat)(hB:B≤w.heap.size)(l:List Int)(hl:l.length≤1000000)(cs:Array Value)(hc:cs=(Jq l).toArray):OwnN (w.alloc (.cells cs 3)) B (.slice (some ⟨w.heap.size,0,none⟩) l.length l.length) l:=by
 subst hc;exact⟨by simp,.inr ⟨w.heap.size,l.length,_,rfl,hB,heap_alloc_new w _,Nat.le_refl _,by simp only [maxLen];omega,by simp,List.take_of_length_le (by simp)⟩⟩
theorem OwnN.set(h:OwnN w B (.slice (some ⟨g,0,none⟩) n cap) l)(i:Nat)(v:Int)(hi:i<l.length):OwnN (w.setCell ⟨g,i,none⟩ (.int .i64 v)) B (.slice (some ⟨g,0,none⟩) n cap) (l.set i v):=by
 rcases h.2 with ⟨e,_⟩|⟨g',cap',cur,e,hb,hg,hn,hm,hs,ht⟩
 · cases e
 · cases e;refine⟨by simp,.inr ⟨g,cap,cur.setIfInBounds i (.int .i64 v),by rw [List.length_set],hb,?_,by rw [List.length_set];exact hn,hm,by simpa using hs,?_⟩⟩
   · rw [heap_setCell_same w g i cur 3 (.int .i64 v) hg]
   · have e2:(cur.setIfInBounds i (.int .i64 v)).toList=cur.toList.set i (.int .i64 v):=by simp
     rw [e2,List.length_set,List.take_set,ht];simp
def SecsAt(w:World)(sv:Value)(l:List (List Int)):Prop:=∃a cap,sv=.slice a l.length cap∧l.length≤cap∧∀i y,l[i]? = some y→Sc y∧∃g o,a=some ⟨g,o,none⟩∧At w g (o+i*64) (u8s y).toArray
theorem Sc.size{y:List Int}(h:Sc y):(u8s y).toArray.size=64:=by rw [J2,h.length]
theorem SecsAt.below{l:List (List Int)}(h:SecsAt w sv l)(hb:Below w.heap.size w w'):SecsAt w' sv l:=by
 obtain⟨a,cap,e,hcap,hc⟩:=h;refine⟨a,cap,e,hcap,fun i x hx=>?_⟩;obtain⟨h1,g,o,h3,h4⟩:=hc i x hx;exact⟨h1,g,o,h3,h4.below hb (h4.lt (by rw [h1.size];decide))⟩
theorem SecsAt.nil(w:World)(a:Option Addr)(cap:Nat):SecsAt w (.slice a 0 cap) []:=⟨a,cap,rfl,Nat.zero_le _,fun i x h=>by simp at h⟩
theorem SecsAt.sc{l:List (List Int)}(h:SecsAt w sv l):∀y∈l,Sc y:=fun y hy=>by
 obtain⟨a,cap,e,-,hc⟩:=h;obtain⟨i,hi⟩:=List.getElem?_of_mem hy;exact (hc i y hi).1
theorem SecsAt.has{l:List (List Int)}(h:SecsAt w sv l)(hl:0<l.length):∃g o cap,sv=.slice (some ⟨g,o,none⟩) l.length cap∧l.length≤cap∧g<w.heap.size∧∀i y,l[i]? = some y→Sc y∧At w g (o+i*64) (u8s y).toArray:=by
 obtain⟨a,cap,e,hcap,hc⟩:=h;obtain⟨h1,g,o,h3,h4⟩:=hc 0 l[0] (by simp [hl]);refine⟨g,o,cap,by rw [e,h3],hcap,h4.lt (by rw [h1.size];decide),fun i x hx=>?_⟩;obtain⟨k1,g',o',k3,k4⟩:=hc i x hx;rw [h3] at k3;cases k3;exact⟨k1,k4⟩
def JL(l:List (List Int)):List Value:=l.flatMap u8s
theorem QY{l:List (List Int)}(h:∀y∈l,Sc y):(JL l).length=l.length*64:=by
 induction l with
 | nil=>rfl
 | cons x r ih =>
  have h1:=ih fun y hy=>h y (List.mem_cons_of_mem _ hy);have h2:=(h x (by simp)).length;simp only [JL,List.flatMap_cons,List.length_append,List.length_cons,List.length_map] at h1 h2 ⊢;omega
theorem Yu{l:List (List Int)}(h:∀y∈l,Sc y)(hj:j<64):(JL l)[i*64+j]? = (l[i]?).bind fun y=>(u8s y)[j]? := by
 induction l generalizing i with
 | nil=>simp [JL]
 | cons x r ih =>
  have hl:(u8s x).length=64:=by rw [List.length_map,(h x (by simp)).length]
  have ih:=fun {i}=>ih (i:=i) fun y hy=>h y (List.mem_cons_of_mem _ hy);simp only [JL,List.flatMap_cons] at ih ⊢;cases i with
  | zero =>
   rw [Nat.zero_mul,Nat.zero_add,List.getElem?_append_left (by omega)];rfl
  | succ i =>
   rw [List.getElem?_append_right (by omega),hl,show (i+1)*64+j-64=i*64+j by omega,ih];rfl
theorem xS(l:List (List Int)):∀v∈JL l,v.oneCell'=true:=fun v hv=>by
 obtain⟨x,hx,hv⟩:=List.mem_flatMap.1 hv;obtain⟨z,_,rfl⟩:=List.mem_map.1 hv;rfl
structure OwnS (w:World) (B:Nat) (sv:Value) (l:List (List Int)):Prop where
 row:w.ownsRow B 36 64 sv l.length (JL l)
 all:∀y∈l,Sc y
theorem OwnS.nil(w:World)(B:Nat):OwnS w B (.slice none 0 0) []:=⟨World.ownsRow_nil w B 36 64,fun x hx=>by cases hx⟩
theorem OwnS.secs{l:List (List Int)}(h:OwnS w B sv l):SecsAt w sv l:=by
 have hr:=h.row;rcases hr.2 with ⟨rfl,h0⟩|⟨g,cap,cur,rfl,hb,hg,hn,hm,hs,ht⟩
 · have:l=[]:=List.eq_nil_of_length_eq_zero h0;subst this;exact SecsAt.nil _ _ _
 · refine⟨_,cap,rfl,hn,fun i x hx=>?_⟩;have h1:=h.all x (List.mem_of_getElem? hx);refine⟨h1,g,0,rfl,fun j hj=>?_⟩;have hi:=(Zg hx).1;rw [h1.size] at hj;rw [Nat.zero_add,World.ownsRow.cellAt hr (i*64+j) (by omega),Yu h.all hj,hx];show (u8s x)[j]? = _;rw [List.getElem?_eq_getElem (by rw [List.length_map,h1.length];exact hj)];rfl
theorem OwnS.lt{l:List (List Int)}(h:OwnS w B sv l):∀k,sv.ownBlock=some k→B≤k∧k<w.heap.size:=World.ownsRow.lt h.row
theorem OwnS.len{l:List (List Int)}(h:OwnS w B sv l):∃a c,sv=.slice a l.length c∧l.length≤c:=by
 rcases h.row.2 with ⟨e,h0⟩|⟨g,cap,cur,e,_,_,hn,_⟩
 · exact⟨none,0,by rw [e,h0],by omega⟩
 · exact⟨_,cap,e,hn⟩
theorem OwnS.below{l:List (List Int)}(h:OwnS w B sv l)(hb:Below w.heap.size w w'):OwnS w' B sv l:=by
 refine⟨⟨h.row.1,?_⟩,h.all⟩;rcases h.row.2 with hn|⟨g,cap,cur,e,hB,hg,r⟩
 · exact .inl hn
 · exact .inr ⟨g,cap,cur,e,hB,(hb.block g (Array.getElem?_eq_some_iff.1 hg).1).trans hg,r⟩
def J3u(w:World)(t:TypeId)(row:Option Nat):Prop:=∀k,row=some k→∃cur fz,w.heap[k]? = some (Obj.cells cur t fz)
theorem X4{e:TypeId}{s:Nat}{xs:List Value}(h:w.ownsRow B e s sv n xs):J3u w e sv.ownBlock:=fun k hk=>by
 rcases h.2 with ⟨rfl,_⟩|⟨g,cap,cur,rfl,_,hg,_⟩
 · cases hk
 · cases hk;exact⟨cur,_,hg⟩
theorem ZM{e:TypeId}{s:Nat}{xs:List Value}{row:Option Nat}(h:w.ownsRow B e s sv n xs)(hg:w.grownBy w' row)(ht:J3u w t row)(hne:t≠e):w'.ownsRow B e s sv n xs:=by
 refine⟨h.1,?_⟩;rcases h.2 with hn|⟨g,cap,cur,e1,hB,hgg,r⟩
 · exact .inl hn
 · refine .inr ⟨g,cap,cur,e1,hB,(hg.block g (Array.getElem?_eq_some_iff.1 hgg).1 fun hk=>?_).trans hgg,r⟩;obtain⟨cur2,fz2,h2⟩:=ht g hk.symm;rw [hgg] at h2;cases h2;exact hne rfl
theorem OwnS.keep{l:List (List Int)}{row:Option Nat}(h:OwnS w B sv l)(hg:w.grownBy w' row)(ht:J3u w t row)(hne:t≠36):OwnS w' B sv l:=⟨ZM h.row hg ht hne,h.all⟩
theorem OwnN.keep{row:Option Nat}(h:OwnN w B sv l)(hg:w.grownBy w' row)(ht:J3u w t row)(hne:t≠3):OwnN w' B sv l:=ZM h hg ht hne
theorem Jd1:(Tryz.prog.info? 36).map (fun i=>(i.size,i.bytes))=some (64,64):=by kernel_rfl
theorem Jd2:(Tryz.prog.info? 36).bind (·.zero)=some (.agg (u8s (zeros 64)).toArray):=by kernel_rfl
theorem Jg8:∃i,Tryz.prog.info? 36=some i∧i.zero=some (.agg (u8s (zeros 64)).toArray)∧i.size=64∧i.bytes=64:=by
 have h1:=Jd1;have h2:=Jd2;cases hq:Tryz.prog.info? 36 with
 | none=>simp [hq] at h1
 | some i=>simp [hq] at h1 h2;exact⟨i,rfl,by simpa using h2,h1⟩
theorem J5e{o:Nat}{m:List (List Int)}(hw:∀y∈m,Sc y)(hc:∀i y,m[i]? = some y→At w b (o+i*64) (u8s y).toArray)(j:Nat)(u:Value)(hu:(JL m)[j]? = some u):w.cell? ((⟨b,o,none⟩:Addr).add j)=some u:=by
 rw [show (⟨b,o,none⟩:Addr).add j=⟨b,o+j,none⟩ by unfold Addr.add;split <;> simp_all];have e:j=j/64*64+j%64:=by omega
 have hj:j%64<64:=Nat.mod_lt _ (by decide);rw [e,Yu hw hj] at hu;obtain⟨x,hx,hu⟩:=Option.bind_eq_some_iff.1 hu;have h1:=hc _ x hx (j%64) (by rw [(hw x (List.mem_of_getElem? hx)).size];exact hj);rw [show o+j/64*64+j%64=o+j by omega] at h1;rw [h1,←hu];rw [List.getElem?_eq_getElem (by rw [List.length_map,(hw x (List.mem_of_getElem? hx)).length];exact hj)];rfl
theorem zeros_sc:Sc (zeros 64):=⟨J1 64,K8 64⟩
theorem J8k{l m:List (List Int)}(h:OwnS w B sv l)(hB:B≤w.heap.size)(k:SecsAt w tv m)(hlen:l.length+m.length≤100000)(ty:TypeId) :
 ∃sv' w',(Builtin.append_ #[106,106] ty #[sv,tv]).run Tryz.prog w=.ok sv' w'∧OwnS w' B sv' (l++m)∧w.grownBy w' sv.ownBlock:=by
 obtain⟨i,hi,hz,hs,hby⟩:=Jg8;cases m with
 | nil =>
  obtain⟨a,c,rfl,hle⟩:=h.len;obtain⟨ta,tc,rfl,_⟩:=k;refine⟨_,w,run_append_nothing w 106 106 ty 36 i Tryz.underlying106 hi a l.length c hle _ ⟨.inl ⟨36,Tryz.underlying106⟩,fun _=>by rfl,?_,?_,by simp,fun u hu=>by cases hu⟩,by rw [List.append_nil];exact h,⟨rfl,rfl,rfl,Nat.le_refl _,fun _ _ _=>rfl⟩⟩
  · cases ta <;> simp [Builtin.firstCells,hs,loadCells,loadCellsFrom]
  · cases ta <;> simp [Builtin.firstCells,hs,loadCells,loadCellsFrom]
 | cons x m =>
  obtain⟨b,o,c,rfl,hcap,hbl,hc⟩:=k.has (by simp);have hw:∀y∈x::m,Sc y:=k.sc;obtain⟨v',w',hr,h2,h3,_⟩:=run_append_own (P:=Tryz.prog) w B 106 ty 36 i (.agg (u8s (zeros 64)).toArray) 64 64 Tryz.underlying106 hi hz hs hby (zeros_sc.size) (by decide) sv l.length (JL l) h.row ⟨b,o,none⟩ (x::m).length c (JL (x::m)) (QY hw) (J5e hw fun j y hj=>(hc j y hj).2) (xS _) (by simp only [maxLen];omega) (by omega) hB;refine⟨v',w',hr,⟨?_,fun y hy=>?_⟩,h3⟩
  · rw [List.length_append,show JL (l++x::m)=JL l++JL (x::m) from List.flatMap_append];exact h2
  · rcases List.mem_append.1 hy with hy|hy
    · exact h.all y hy
    · exact hw y hy
theorem J8l(w:World)(y:List Int)(hy:Sc y):(Instr.buildSlice 106 1 #[(0,Value.agg (u8s y).toArray)]).run Tryz.prog w=.ok (.slice (some ⟨w.heap.size,0,none⟩) 1 1) (w.alloc (.cells (JL [y]).toArray 36)):=by
 obtain⟨i,hi,hz,hs,-⟩:=Jg8;have hv:∀v∈[Value.agg (u8s y).toArray],v.cells.size=64:=fun v hv=>by
  obtain rfl:=List.mem_singleton.1 hv;exact hy.size
 obtain⟨r,hr,hrs,hk⟩:=Go.Great.fill_dense (s:=64) (by decide) [Value.agg (u8s y).toArray] 0 ((Array.range (1*64)).map fun k=>(Value.agg (u8s (zeros 64)).toArray).cells[k%(Value.agg (u8s (zeros 64)).toArray).cells.size]!) hv (by simp);have hcells:r=(JL [y]).toArray:=by
  apply Array.ext_getElem?;intro k;rw [hk k];simp only [List.length_cons,List.length_nil,Nat.zero_add,Nat.zero_mul,Nat.zero_le,true_and,Nat.sub_zero,List.getElem?_toArray,Nat.one_mul]
  by_cases h:k<64
  · rw [if_pos h];have e0:k/64=0:=by omega
    have e1:k%64=k:=by omega
    simp only [e0,e1,List.getElem?_cons_zero,Option.bind_some];simp [JL,Value.cells]
  · rw [if_neg h,List.getElem?_eq_none (by rw [QY (fun z hz=>by obtain rfl:=List.mem_singleton.1 hz;exact hy)];simp;omega)];simp;omega
 rw [←hcells];refine Go.run_buildSlice (P:=Tryz.prog) w 106 36 1 _ r i _ Tryz.underlying106 hi hz (by rw [hs];omega) (by rw [hs];omega) ?_;rw [hs];simpa using hr
theorem J5f{y:List Int}(hy:Sc y):SecsAt (w.alloc (.cells (JL [y]).toArray 36)) (.slice (some ⟨w.heap.size,0,none⟩) 1 1) [y]:=by
 refine⟨_,1,rfl,Nat.le_refl _,fun i x hx=>?_⟩;cases i with
 | succ i=>simp at hx
 | zero =>
  simp only [List.getElem?_cons_zero,Option.some.injEq] at hx;subst hx;refine⟨hy,w.heap.size,0,rfl,fun j hj=>?_⟩;have hb:=Blk.new w (JL [y]).toArray 36;have e:(JL [y]).toArray.toList=u8s y:=by simp [JL]
  rw [e] at hb;rw [Nat.zero_mul,Nat.add_zero,Nat.zero_add];exact hb.cell (by simp only [List.size_toArray] at hj;simp [hj])
section
variable {ops:Array Oper} {rest:List Oper} {dst:Option Tmp} {x y:Operand} {t2:TypeId} {pos:String} {after:Array Edge} {guard:Option (Nat×Bool)} {a:Act} {w:World} {Q:Exit→Act→World→Prop}
theorem J8m{l m:List (List Int)}(h:OwnS w B sv l)(hB:B≤w.heap.size)(k:SecsAt w tv m)(hlen:l.length+m.length≤100000)(hx:a.eval x=sv)(hy:a.eval y=tv)(hw:Region.wanted ⟨dst,.call { callee:=.builtin .append,args:=#[x,y],argTypes:=#[106,106] },t2,pos,after,guard⟩ (yielded ops a.tmps)=true)(hh:∀sv' w',OwnS w' B sv' (l++m)→w.grownBy w' sv.ownBlock→wpList Tryz.prog ops Q rest (a.put dst sv') w'):wpList Tryz.prog ops Q (⟨dst,.call { callee:=.builtin .append,args:=#[x,y],argTypes:=#[106,106] },t2,pos,after,guard⟩::rest) a w:=by
 obtain⟨sv',w',hr,ho,hg⟩:=J8k h hB k hlen t2;exact Jo sv' w' hw (Qd a.eval _ x y 106 106 rfl sv tv sv' hx hy hr) (hh sv' w' ho hg)
theorem xU{m:List Int}(h:OwnN w B sv l)(hB:B≤w.heap.size)(k:IntsAt w tv m)(hlen:l.length+m.length≤1000000)(hx:a.eval x=sv)(hy:a.eval y=tv)(hw:Region.wanted ⟨dst,.call { callee:=.builtin .append,args:=#[x,y],argTypes:=#[41,41] },t2,pos,after,guard⟩ (yielded ops a.tmps)=true)(hh:∀sv' w',OwnN w' B sv' (l++m)→w.grownBy w' sv.ownBlock→wpList Tryz.prog ops Q rest (a.put dst sv') w'):wpList Tryz.prog ops Q (⟨dst,.call { callee:=.builtin .append,args:=#[x,y],argTypes:=#[41,41] },t2,pos,after,guard⟩::rest) a w:=by
 obtain⟨sv',w',hr,ho,hg⟩:=z6 h hB k hlen t2;exact Jo sv' w' hw (Qd a.eval _ x y 41 41 rfl sv tv sv' hx hy hr) (hh sv' w' ho hg)
theorem J8n{s:List Int}(hs:Sc s)(hx:a.eval x=.agg (u8s s).toArray)(hw:Region.wanted ⟨dst,.buildSlice 106 1 #[(0,x)],t2,pos,after,guard⟩ (yielded ops a.tmps)=true)(hh:∀w',SecsAt w' (.slice (some ⟨w.heap.size,0,none⟩) 1 1) [s]→Below w.heap.size w w'→wpList Tryz.prog ops Q rest (a.put dst (.slice (some ⟨w.heap.size,0,none⟩) 1 1)) w'):wpList Tryz.prog ops Q (⟨dst,.buildSlice 106 1 #[(0,x)],t2,pos,after,guard⟩::rest) a w :=
 Jo _ _ hw (JS _ _ a.eval _ 106 1 _ rfl #[(0,.agg (u8s s).toArray)] (by simp [hx]) _ (J8l w s hs)) (hh _ (J5f hs) (Zq.alloc Zy _))
end
theorem IntsAt.form(h:IntsAt w sv l):∃a cap,sv=.slice a l.length cap:=let ⟨a,cap,h,_⟩:=h;⟨a,cap,h⟩
end Go.Proofs.YtdbfmikeaoaebaaGreatDoor
