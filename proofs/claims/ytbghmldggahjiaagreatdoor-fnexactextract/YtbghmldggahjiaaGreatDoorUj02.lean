/-.-/
import Derived.Test.YtbghmldggahjiaaGreatDoorUj01
import Derived.WalkLawsBesides
import Derived.Laws.BitsAllLaws
import Derived.Laws.Bits64
import Derived.Lib.Zigzag
import Derived.RowKit
set_option linter.unusedVariables false
set_option maxHeartbeats 6400000
set_option maxRecDepth 100000
namespace Go.Proofs.YtbghmldggahjiaaGreatDoor
open Go.RowKit
structure Fc where
 n1:Nat
 n2:Nat
 l:Array Value
def Fc.vs (c:Fc):List Value:=[.func (.func c.n1) #[] c.l,.func (.func c.n2) #[] c.l]
theorem Fc.len (c:Fc):c.vs.length=2:=rfl
def plcV (o:Nat):Nat:=match o with
 | 1=>190
 | 2=>181
 | 3=>182
 | 4=>183
 | 5=>184
 | 6=>191
 | 9=>189
 | 10=>193
 | 11=>194
 | 12=>195
 | 13=>192
 | _=>0
def FF (W:World)(B o:Nat)(c:Fc):Prop:=
 if o=7 then c=⟨185,186,#[]⟩ else if o=8 then c=⟨187,188,#[]⟩ else
  ∃b,c=⟨210,211,#[xj b 0]⟩/\B<=b/\b<W.heap.size/\W.cell? (U b 0)=some (.func (.func (plcV o)) #[] #[])
theorem ff_below {B C o:Nat}{W W':World}{c:Fc}(h:FF W B o c)(A:Below C W W')(hC:W.heap.size<=C):FF W' B o c:=by
 unfold FF at h |-;split
 ·rwa[if_pos ‹_›] at h
 ·rw[if_neg ‹_›] at h;split
  ·rwa[if_pos ‹_›] at h
  ·rw[if_neg ‹_›] at h;obtain⟨b,D,E,h3,h4⟩:=h;exact⟨b,D,E,yJ h3 A.size,(A.cell (p:=(U b 0)) (yJ h3 hC)).trans h4⟩
theorem ff_base {B B' o:Nat}{W:World}{c:Fc}(h:FF W B o c)(hB:B'<=B):FF W B' o c:=by
 unfold FF at h |-;split
 ·rwa[if_pos ‹_›] at h
 ·rw[if_neg ‹_›] at h;split
  ·rwa[if_pos ‹_›] at h
  ·rw[if_neg ‹_›] at h;obtain⟨b,D,E,h3,h4⟩:=h;exact⟨b,D,yN hB E,h3,h4⟩
def FEnd (o:Nat)(w:World)(e:Ending)(w':World):Prop:=∃n1 n2 l,e = .returned (.agg #[.func (.func n1) #[] l,.func (.func n2) #[] l])/\FF w' w.heap.size o ⟨n1,n2,l⟩/\Below w.heap.size w w'
theorem sfn (a:Addr)(f:Nat)(l:Array Value)(m:Mode)(w:World):(store a (.func (.func f) #[] l) m).run Tryz.prog w=stored Tryz.prog w a (.func (.func f) #[] l) m:=run_store _ w a _ m rfl
theorem cell_other2 {W:World}{b c i j:Nat}{u v:Value}(h:c≠b):((W.setCell (U b i) u).setCell (U b j) v).cell? (U c 0)=W.cell? (U c 0):=by
 unfold World.cell?;rw[yS _ _ _ _ h,yS _ _ _ _ h]
theorem numberField_any (p:Nat)(w:World) :
  Calls Tryz.prog 180 #[.func (.func p) #[] #[]] w fun e w'=>e = .returned (.agg #[.func (.func 210) #[] #[xj w.heap.size 0],.func (.func 211) #[] #[xj w.heap.size 0]])/\w.heap.size<w'.heap.size/\w'.cell? (U w.heap.size 0)=some (.func (.func p) #[] #[])/\Below w.heap.size w w':=by
 have hsfn:=sfn;go_enter Tryz.func180,Tryz.ntmps180;go_wp2;go_returns;refine⟨rfl,by simp;omega,?_,by go_grown⟩;rw[World.cell?_alloc_old _ _ _ (by show w.heap.size ≠ _;simp)];exact Y (zj w [.func (.func p) #[] #[]] _) 0 rfl
def fA (w:World):Value:=.func (.func 210) #[] #[xj (w.heap.size+1) 0]
def fB (w:World):Value:=.func (.func 211) #[] #[xj (w.heap.size+1) 0]
def fW (w W1:World):World:=(W1.setCell (U w.heap.size 0) (fA w)).setCell (U w.heap.size 1) (fB w)
theorem fld_end {o:Nat}(h7:¬ o=7)(h8:¬ o=8){w W1:World}(A:Below w.heap.size w W1)(D:w.heap.size+1<W1.heap.size)(E:W1.cell? (U (w.heap.size+1) 0)=some (.func (.func (plcV o)) #[] #[])):FEnd o w (.returned (.agg #[fA w,fB w])) (fW w W1):=by
 refine⟨_,_,_,rfl,?_,(A.setCell (p:=(U w.heap.size 0)) ya _).setCell (p:=(U w.heap.size 1)) ya _⟩;unfold FF;rw[if_neg h7,if_neg h8];refine⟨w.heap.size+1,rfl,by omega,by simpa[fW] using D,?_⟩;rw[fW,cell_other2 (by omega)];exact E
theorem fS (w:World):(Calls Tryz.prog 147 #[] w fun e w'=>FEnd 1 w e w')/\(Calls Tryz.prog 140 #[] w fun e w'=>FEnd 2 w e w')/\(Calls Tryz.prog 141 #[] w fun e w'=>FEnd 3 w e w')/\(Calls Tryz.prog 142 #[] w fun e w'=>FEnd 4 w e w')/\(Calls Tryz.prog 143 #[] w fun e w'=>FEnd 5 w e w')/\(Calls Tryz.prog 148 #[] w fun e w'=>FEnd 6 w e w')/\(Calls Tryz.prog 146 #[] w fun e w'=>FEnd 9 w e w')/\(Calls Tryz.prog 150 #[] w fun e w'=>FEnd 10 w e w')/\(Calls Tryz.prog 151 #[] w fun e w'=>FEnd 11 w e w')/\(Calls Tryz.prog 152 #[] w fun e w'=>FEnd 12 w e w')/\(Calls Tryz.prog 149 #[] w fun e w'=>FEnd 13 w e w'):=by
 refine⟨?_,?_,?_,?_,?_,?_,?_,?_,?_,?_,?_⟩
 all_goals
  have hsfn:=sfn;have HX:=Q (zj w [.nilFunc,.nilFunc] 181);have HB:Hid (Below w.heap.size w (w.alloc (J #[.nilFunc,.nilFunc] 181))):=lT _ _;have hz:(w.alloc (J #[.nilFunc,.nilFunc] 181)).heap.size=w.heap.size+1:=by simp
  first|go_enter Tryz.func147,Tryz.ntmps147 | go_enter Tryz.func140,Tryz.ntmps140 | go_enter Tryz.func141,Tryz.ntmps141 | go_enter Tryz.func142,Tryz.ntmps142 | go_enter Tryz.func143,Tryz.ntmps143 | go_enter Tryz.func148,Tryz.ntmps148 | go_enter Tryz.func146,Tryz.ntmps146 | go_enter Tryz.func150,Tryz.ntmps150 | go_enter Tryz.func151,Tryz.ntmps151 | go_enter Tryz.func152,Tryz.ntmps152 | go_enter Tryz.func149,Tryz.ntmps149
  go_wp2_with fail;refine(numberField_any _ _).mono ?_;rintro e W1 ⟨rfl,D,E,h3⟩;have hx:=zf (Z HX) h3 (by rw[show(w.alloc (Obj.cells [Value.nilFunc,Value.nilFunc].toArray 181)).heap.size = _ from hz];omega);have ud:Hid (Below w.heap.size w W1):=(Z HB).trans (h3.mono (Z HB).size);rw[hz] at D E h3 |-;have c0:=Y hx 0 rfl;have c1:=Y hx 1 rfl;obtain ⟨f0,f1⟩:=r0_2 hx rfl;have kH:=Q hx;have H12:=Q (And.intro D E);clear D E h3 hx hz HX HB;go_wp2_with fail;have aW:=eh (j:=1) (u:=fB w) (eh (j:=0) (u:=fA w) (Z kH) (by simp)) (by simp);have d0:=Y aW 0 rfl;have d1:=Y aW 1 rfl;change bodyPost _ _ _ _ _ (fW w W1);refine bodyPost_ret (v:=.agg #[fA w,fB w]) ?_ rfl (fld_end (by decide) (by decide) (Z ud) (Z H12).1 (Z H12).2)
  first|(simp[results,Tryz.f147,go_sem,d0,d1,fW];done)|(simp[results,Tryz.f140,go_sem,d0,d1,fW];done)|(simp[results,Tryz.f141,go_sem,d0,d1,fW];done)|(simp[results,Tryz.f142,go_sem,d0,d1,fW];done)|(simp[results,Tryz.f143,go_sem,d0,d1,fW];done)|(simp[results,Tryz.f148,go_sem,d0,d1,fW];done)|(simp[results,Tryz.f146,go_sem,d0,d1,fW];done)|(simp[results,Tryz.f150,go_sem,d0,d1,fW];done)|(simp[results,Tryz.f151,go_sem,d0,d1,fW];done)|(simp[results,Tryz.f152,go_sem,d0,d1,fW];done)|(simp[results,Tryz.f149,go_sem,d0,d1,fW];done)
abbrev mk1_fld (w:World):=(fS w).1
abbrev mk2_fld (w:World):=(fS w).2.1
abbrev mk3_fld (w:World):=(fS w).2.2.1
abbrev mk4_fld (w:World):=(fS w).2.2.2.1
abbrev mk5_fld (w:World):=(fS w).2.2.2.2.1
abbrev mk6_fld (w:World):=(fS w).2.2.2.2.2.1
abbrev mk9_fld (w:World):=(fS w).2.2.2.2.2.2.1
abbrev mk10_fld (w:World):=(fS w).2.2.2.2.2.2.2.1
abbrev mk11_fld (w:World):=(fS w).2.2.2.2.2.2.2.2.1
abbrev mk12_fld (w:World):=(fS w).2.2.2.2.2.2.2.2.2.1
abbrev mk13_fld (w:World):=(fS w).2.2.2.2.2.2.2.2.2.2
theorem mk7_fld (w:World):Calls Tryz.prog 144 #[] w fun e w'=>FEnd 7 w e w':=by
 have hsfn:=sfn;go_enter Tryz.func144,Tryz.ntmps144;go_wp2;go_returns;exact⟨_,_,_,rfl,by unfold FF;simp,by go_grown⟩
theorem mk8_fld (w:World):Calls Tryz.prog 145 #[] w fun e w'=>FEnd 8 w e w':=by
 have hsfn:=sfn;go_enter Tryz.func145,Tryz.ntmps145;go_wp2;go_returns;exact⟨_,_,_,rfl,by unfold FF;simp,by go_grown⟩
def shF (k:Int):List Nat:=if k=1 then[2,3,4,5,7,8,9] else if k=2 then[1,2,3,4,5,6,7,8,13] else if k=3 then[9,10,11,12] else if k=4\/k=5\/k=6\/k=7\/k=9 then[9,11] else if k=8 then[11] else[]
def shC (k:Int):Int:=if k=1 then 1 else 0
def FFs (W:World)(B:Nat):List Nat->List Fc->Prop
 | [],[]=>True
 | o::os,c::cs=>FF W B o c/\FFs W B os cs
 | _,_=>False
def eZ (k:Int)(w:World)(e:Ending)(w':World):Prop:=∃v fs,e = .returned (.agg #[H (shC k),v])/\OwnR Fc.vs 2 w.heap.size w' v fs/\FFs w' w.heap.size (shF k) fs/\yn w w'
theorem ff_set {B o b j:Nat}{W:World}{c:Fc}{u:Value}(h:FF W B o c)(A:b<B):FF (W.setCell (U b j) u) B o c:=by
 unfold FF at h |-;split
 ·rwa[if_pos ‹_›] at h
 ·rw[if_neg ‹_›] at h;split
  ·rwa[if_pos ‹_›] at h
  ·rw[if_neg ‹_›] at h;obtain⟨d,D,E,h3,h4⟩:=h;refine⟨d,D,E,by simpa using h3,?_⟩;rw[<- h4];unfold World.cell?;rw[yS _ _ _ _ (by show d≠b;omega)]
theorem fcs_made {B:Nat}(W:World)(fs:List Fc)(t:TypeId)(hB:B<=W.heap.size)(hl:fs.length<=1073741824):OwnR Fc.vs 2 B (W.alloc (J (fs.flatMap Fc.vs).toArray t)) (.slice (some (U W.heap.size 0)) fs.length fs.length) fs:=by
 refine⟨_,_,rfl,hl,fun _=>⟨W.heap.size,rfl,hB,by simp,fun i c hi=>?_,gD (heap_alloc_new W _) (by rw[List.size_toArray,ef Fc.len];omega)⟩⟩;intro j u hu;have hj:j<2:=(yG.1 hu).1;rw[Nat.zero_add];exact Y (zj W (fs.flatMap Fc.vs) t) (i*2+j) ((flat_get Fc.len fs i j c hi hj).trans hu)
theorem ffs_app {W:World}{B o:Nat}{c:Fc}:∀ {os:List Nat} {fs:List Fc},FFs W B os fs->FF W B o c->FFs W B (os ++ [o]) (fs ++ [c])
 | [],[],_,h=>⟨h,trivial⟩
 | _ :: _,_ :: _,D,E=>⟨D.1,ffs_app D.2 E⟩
theorem ffs_map {W W':World}{B B':Nat}(hm:∀o c,FF W B o c->FF W' B' o c):∀ {os:List Nat} {fs:List Fc},FFs W B os fs->FFs W' B' os fs
 | [],[],_=>trivial
 | _ :: _,_ :: _,h=>⟨hm _ _ h.1,ffs_map hm h.2⟩
structure SH (w W:World) (os:List Nat) (fs:List Fc):Prop where
 x:Bx W w.heap.size [.int .i64 0,.slice none 0 0]
 b:Below w.heap.size w W
 s:w.heap.size<W.heap.size
 f:FFs W (w.heap.size+1) os fs
theorem sh_start (w:World):SH w (w.alloc (J #[H 0,.slice none 0 0] 176)) [] []:=⟨zj w [H 0,.slice none 0 0] 176,lT _ _,by simp,trivial⟩
theorem ek {w W W':World}{os:List Nat}{fs:List Fc}{o:Nat}{c:Fc}(h:SH w W os fs)(hf:FF W' W.heap.size o c)(A:yn W W'):SH w W' (os ++ [o]) (fs ++ [c]):=
 ⟨zf h.x A h.s,h.b.trans (A.mono h.b.size),yJ h.s A.size,ffs_app (ffs_map (fun _ _ h=>ff_below h A ya) h.f) (ff_base hf h.s)⟩
def shW (w W:World)(c:Int)(fs:List Fc):World:=((W.setCell (U w.heap.size 0) (H c)).setCell (U w.heap.size 1) (.slice (some (U W.heap.size 0)) fs.length fs.length)).alloc (J (fs.flatMap Fc.vs).toArray 181)
theorem sh_end {k c:Int}{w W:World}{os:List Nat}{fs:List Fc}(h:SH w W os fs)(K:shF k=os)(hc:shC k=c)(hl:fs.length<=1073741824):eZ k w (.returned (.agg #[H c,.slice (some (U W.heap.size 0)) fs.length fs.length])) (shW w W c fs)/\(shW w W c fs).cell? (U w.heap.size 0)=some (H c)/\(shW w W c fs).cell? (U w.heap.size 1)=some (.slice (some (U W.heap.size 0)) fs.length fs.length):=by
 unfold shW;have aW:=eh (j:=1) (u:=(.slice (some (U W.heap.size 0)) fs.length fs.length)) (eh (j:=0) (u:=H c) h.x (by simp)) (by simp);have hv:((W.setCell (U w.heap.size 0) (H c)).setCell (U w.heap.size 1) (.slice (some (U W.heap.size 0)) fs.length fs.length)).heap.size=W.heap.size:=by simp
 have kg:=(h.b.setCell (p:=(U w.heap.size 0)) ya (H c)).setCell (p:=(U w.heap.size 1)) ya (.slice (some (U W.heap.size 0)) fs.length fs.length);have hf:=ffs_map (fun _ _ h=>ff_set (b:=w.heap.size) (j:=1) (u:=(.slice (some (U W.heap.size 0)) fs.length fs.length)) (ff_set (b:=w.heap.size) (j:=0) (u:=H c) h (by omega)) (by omega)) h.f;generalize ((W.setCell (U w.heap.size 0) (H c)).setCell (U w.heap.size 1) (.slice (some (U W.heap.size 0)) fs.length fs.length))=V at aW hv kg hf |-;have jf:=fcs_made (B:=w.heap.size) V fs 181 kg.size hl;rw[hv] at jf;have hbA:=lT V (J (fs.flatMap Fc.vs).toArray 181);have hs:=h.s;have hx3:=zf aW hbA (by omega);refine⟨⟨_,_,by rw[hc],jf,?_,kg.alloc kg.size _⟩,Y hx3 0 rfl,Y hx3 1 rfl⟩;rw[K];exact ffs_map (fun _ _ h=>ff_base (ff_below h hbA ya) (by omega)) hf
theorem shp_fin {k c:Int}{w W:World}{os:List Nat}{fs:List Fc}(h:SH w W os fs)(K:shF k=os)(hc:shC k=c)(hl:fs.length<=1073741824):eZ k w (.returned (.agg #[H c,.slice (some (U W.heap.size 0)) fs.length fs.length])) (shW w W c fs):=(sh_end h K hc hl).1
theorem shape1_any (w:World):Calls Tryz.prog 106 #[H 1] w fun e w'=>eZ 1 w e w':=by
 have H0:=Q (sh_start w);go_enter Tryz.func106,Tryz.ntmps106;go_wp2_with fail;generalize (w.alloc (J #[H 0,.slice none 0 0] 176))=W0 at H0 |-;refine(mk2_fld W0).mono ?_;rintro e W1 ⟨a1,b1,l1,rfl,hf,A⟩;have H1:=Q (ek (Z H0) hf A);clear hf A H0;go_wp2_with fail;refine(mk3_fld W1).mono ?_;rintro e W2 ⟨a2,b2,l2,rfl,hf,A⟩;have H2:=Q (ek (Z H1) hf A);clear hf A H1;go_wp2_with fail;refine(mk4_fld W2).mono ?_;rintro e W3 ⟨a3,b3,l3,rfl,hf,A⟩;have H3:=Q (ek (Z H2) hf A);clear hf A H2;go_wp2_with fail;refine(mk5_fld W3).mono ?_;rintro e W4 ⟨a4,b4,l4,rfl,hf,A⟩;have H4:=Q (ek (Z H3) hf A);clear hf A H3;go_wp2_with fail;refine(mk7_fld W4).mono ?_;rintro e W5 ⟨a5,b5,l5,rfl,hf,A⟩;have H5:=Q (ek (Z H4) hf A);clear hf A H4;go_wp2_with fail;refine(mk8_fld W5).mono ?_;rintro e W6 ⟨a6,b6,l6,rfl,hf,A⟩;have H6:=Q (ek (Z H5) hf A);clear hf A H5;go_wp2_with fail;refine(mk9_fld W6).mono ?_;rintro e W7 ⟨a7,b7,l7,rfl,hf,A⟩;have H7:=Q (ek (Z H6) hf A);clear hf A H6;have c0:=Y (Z H7).x 0 rfl;have c1:=Y (Z H7).x 1 rfl;obtain ⟨f0,f1⟩:=r0_2 (Z H7).x rfl;have hs:=(Z H7).s;go_wp2_with fail;clear c0 c1 f0 f1;change bodyPost _ _ _ _ _ (shW w W7 1 [⟨a1,b1,l1⟩,⟨a2,b2,l2⟩,⟨a3,b3,l3⟩,⟨a4,b4,l4⟩,⟨a5,b5,l5⟩,⟨a6,b6,l6⟩,⟨a7,b7,l7⟩]);obtain⟨_,d0,d1⟩:=sh_end (k:=1) (c:=1) (Z H7) rfl rfl (by simp);refine bodyPost_ret (v:=.agg #[H 1,.slice (some (U W7.heap.size 0)) 7 7]) ?_ rfl (shp_fin (Z H7) rfl rfl (by simp));change (shW w W7 1 [⟨a1,b1,l1⟩,⟨a2,b2,l2⟩,⟨a3,b3,l3⟩,⟨a4,b4,l4⟩,⟨a5,b5,l5⟩,⟨a6,b6,l6⟩,⟨a7,b7,l7⟩]).cell? _ = _ at d0 d1;generalize shW w W7 1 [⟨a1,b1,l1⟩,⟨a2,b2,l2⟩,⟨a3,b3,l3⟩,⟨a4,b4,l4⟩,⟨a5,b5,l5⟩,⟨a6,b6,l6⟩,⟨a7,b7,l7⟩]=V9 at d0 d1 |-;simp[results,Tryz.f106,go_sem,d0,d1]
theorem shape2_any (w:World):Calls Tryz.prog 106 #[H 2] w fun e w'=>eZ 2 w e w':=by
 have H0:=Q (sh_start w);go_enter Tryz.func106,Tryz.ntmps106;go_wp2_with fail;generalize (w.alloc (J #[H 0,.slice none 0 0] 176))=W0 at H0 |-;refine(mk1_fld W0).mono ?_;rintro e W1 ⟨a1,b1,l1,rfl,hf,A⟩;have H1:=Q (ek (Z H0) hf A);clear hf A H0;go_wp2_with fail;refine(mk2_fld W1).mono ?_;rintro e W2 ⟨a2,b2,l2,rfl,hf,A⟩;have H2:=Q (ek (Z H1) hf A);clear hf A H1;go_wp2_with fail;refine(mk3_fld W2).mono ?_;rintro e W3 ⟨a3,b3,l3,rfl,hf,A⟩;have H3:=Q (ek (Z H2) hf A);clear hf A H2;go_wp2_with fail;refine(mk4_fld W3).mono ?_;rintro e W4 ⟨a4,b4,l4,rfl,hf,A⟩;have H4:=Q (ek (Z H3) hf A);clear hf A H3;go_wp2_with fail;refine(mk5_fld W4).mono ?_;rintro e W5 ⟨a5,b5,l5,rfl,hf,A⟩;have H5:=Q (ek (Z H4) hf A);clear hf A H4;go_wp2_with fail;refine(mk6_fld W5).mono ?_;rintro e W6 ⟨a6,b6,l6,rfl,hf,A⟩;have H6:=Q (ek (Z H5) hf A);clear hf A H5;go_wp2_with fail;refine(mk7_fld W6).mono ?_;rintro e W7 ⟨a7,b7,l7,rfl,hf,A⟩;have H7:=Q (ek (Z H6) hf A);clear hf A H6;go_wp2_with fail;refine(mk8_fld W7).mono ?_;rintro e W8 ⟨a8,b8,l8,rfl,hf,A⟩;have H8:=Q (ek (Z H7) hf A);clear hf A H7;go_wp2_with fail;refine(mk13_fld W8).mono ?_;rintro e W9 ⟨a9,b9,l9,rfl,hf,A⟩;have H9:=Q (ek (Z H8) hf A);clear hf A H8;have c0:=Y (Z H9).x 0 rfl;have c1:=Y (Z H9).x 1 rfl;obtain ⟨f0,f1⟩:=r0_2 (Z H9).x rfl;have hs:=(Z H9).s;go_wp2_with fail;clear c0 c1 f0 f1;change bodyPost _ _ _ _ _ (shW w W9 0 [⟨a1,b1,l1⟩,⟨a2,b2,l2⟩,⟨a3,b3,l3⟩,⟨a4,b4,l4⟩,⟨a5,b5,l5⟩,⟨a6,b6,l6⟩,⟨a7,b7,l7⟩,⟨a8,b8,l8⟩,⟨a9,b9,l9⟩]);obtain⟨_,d0,d1⟩:=sh_end (k:=2) (c:=0) (Z H9) rfl rfl (by simp);refine bodyPost_ret (v:=.agg #[H 0,.slice (some (U W9.heap.size 0)) 9 9]) ?_ rfl (shp_fin (Z H9) rfl rfl (by simp));change (shW w W9 0 [⟨a1,b1,l1⟩,⟨a2,b2,l2⟩,⟨a3,b3,l3⟩,⟨a4,b4,l4⟩,⟨a5,b5,l5⟩,⟨a6,b6,l6⟩,⟨a7,b7,l7⟩,⟨a8,b8,l8⟩,⟨a9,b9,l9⟩]).cell? _ = _ at d0 d1;generalize shW w W9 0 [⟨a1,b1,l1⟩,⟨a2,b2,l2⟩,⟨a3,b3,l3⟩,⟨a4,b4,l4⟩,⟨a5,b5,l5⟩,⟨a6,b6,l6⟩,⟨a7,b7,l7⟩,⟨a8,b8,l8⟩,⟨a9,b9,l9⟩]=V9 at d0 d1 |-;simp[results,Tryz.f106,go_sem,d0,d1]
theorem shape3_any (w:World):Calls Tryz.prog 106 #[H 3] w fun e w'=>eZ 3 w e w':=by
 have H0:=Q (sh_start w);go_enter Tryz.func106,Tryz.ntmps106;go_wp2_with fail;generalize (w.alloc (J #[H 0,.slice none 0 0] 176))=W0 at H0 |-;refine(mk9_fld W0).mono ?_;rintro e W1 ⟨a1,b1,l1,rfl,hf,A⟩;have H1:=Q (ek (Z H0) hf A);clear hf A H0;go_wp2_with fail;refine(mk10_fld W1).mono ?_;rintro e W2 ⟨a2,b2,l2,rfl,hf,A⟩;have H2:=Q (ek (Z H1) hf A);clear hf A H1;go_wp2_with fail;refine(mk11_fld W2).mono ?_;rintro e W3 ⟨a3,b3,l3,rfl,hf,A⟩;have H3:=Q (ek (Z H2) hf A);clear hf A H2;go_wp2_with fail;refine(mk12_fld W3).mono ?_;rintro e W4 ⟨a4,b4,l4,rfl,hf,A⟩;have H4:=Q (ek (Z H3) hf A);clear hf A H3;have c0:=Y (Z H4).x 0 rfl;have c1:=Y (Z H4).x 1 rfl;obtain ⟨f0,f1⟩:=r0_2 (Z H4).x rfl;have hs:=(Z H4).s;go_wp2_with fail;clear c0 c1 f0 f1;change bodyPost _ _ _ _ _ (shW w W4 0 [⟨a1,b1,l1⟩,⟨a2,b2,l2⟩,⟨a3,b3,l3⟩,⟨a4,b4,l4⟩]);obtain⟨_,d0,d1⟩:=sh_end (k:=3) (c:=0) (Z H4) rfl rfl (by simp);refine bodyPost_ret (v:=.agg #[H 0,.slice (some (U W4.heap.size 0)) 4 4]) ?_ rfl (shp_fin (Z H4) rfl rfl (by simp));change (shW w W4 0 [⟨a1,b1,l1⟩,⟨a2,b2,l2⟩,⟨a3,b3,l3⟩,⟨a4,b4,l4⟩]).cell? _ = _ at d0 d1;generalize shW w W4 0 [⟨a1,b1,l1⟩,⟨a2,b2,l2⟩,⟨a3,b3,l3⟩,⟨a4,b4,l4⟩]=V9 at d0 d1 |-;simp[results,Tryz.f106,go_sem,d0,d1]
theorem iW (w:World):(Calls Tryz.prog 106 #[H 4] w fun e w'=>eZ 4 w e w')/\(Calls Tryz.prog 106 #[H 5] w fun e w'=>eZ 5 w e w')/\(Calls Tryz.prog 106 #[H 6] w fun e w'=>eZ 6 w e w')/\(Calls Tryz.prog 106 #[H 7] w fun e w'=>eZ 7 w e w')/\(Calls Tryz.prog 106 #[H 9] w fun e w'=>eZ 9 w e w'):=by
 refine⟨?_,?_,?_,?_,?_⟩
 all_goals
  have H0:=Q (sh_start w);go_enter Tryz.func106,Tryz.ntmps106;go_wp2_with fail;generalize (w.alloc (J #[H 0,.slice none 0 0] 176))=W0 at H0 |-;refine(mk9_fld W0).mono ?_;rintro e W1 ⟨a1,b1,l1,rfl,hf,A⟩;have H1:=Q (ek (Z H0) hf A);clear hf A H0;go_wp2_with fail;refine(mk11_fld W1).mono ?_;rintro e W2 ⟨a2,b2,l2,rfl,hf,A⟩;have H2:=Q (ek (Z H1) hf A);clear hf A H1;have c0:=Y (Z H2).x 0 rfl;have c1:=Y (Z H2).x 1 rfl;obtain ⟨f0,f1⟩:=r0_2 (Z H2).x rfl;have hs:=(Z H2).s;go_wp2_with fail;clear c0 c1 f0 f1;change bodyPost _ _ _ _ _ (shW w W2 0 [⟨a1,b1,l1⟩,⟨a2,b2,l2⟩]);obtain⟨_,d0,d1⟩:=sh_end (k:=4) (c:=0) (Z H2) rfl rfl (by simp);refine bodyPost_ret (v:=.agg #[H 0,.slice (some (U W2.heap.size 0)) 2 2]) ?_ rfl (shp_fin (Z H2) rfl rfl (by simp));change (shW w W2 0 [⟨a1,b1,l1⟩,⟨a2,b2,l2⟩]).cell? _ = _ at d0 d1;generalize shW w W2 0 [⟨a1,b1,l1⟩,⟨a2,b2,l2⟩]=V9 at d0 d1 |-;simp[results,Tryz.f106,go_sem,d0,d1]
theorem shape8_any (w:World):Calls Tryz.prog 106 #[H 8] w fun e w'=>eZ 8 w e w':=by
 have H0:=Q (sh_start w);go_enter Tryz.func106,Tryz.ntmps106;go_wp2_with fail;generalize (w.alloc (J #[H 0,.slice none 0 0] 176))=W0 at H0 |-;refine(mk11_fld W0).mono ?_;rintro e W1 ⟨a1,b1,l1,rfl,hf,A⟩;have H1:=Q (ek (Z H0) hf A);clear hf A H0;have c0:=Y (Z H1).x 0 rfl;have c1:=Y (Z H1).x 1 rfl;obtain ⟨f0,f1⟩:=r0_2 (Z H1).x rfl;have hs:=(Z H1).s;go_wp2_with fail;clear c0 c1 f0 f1;change bodyPost _ _ _ _ _ (shW w W1 0 [⟨a1,b1,l1⟩]);obtain⟨_,d0,d1⟩:=sh_end (k:=8) (c:=0) (Z H1) rfl rfl (by simp);refine bodyPost_ret (v:=.agg #[H 0,.slice (some (U W1.heap.size 0)) 1 1]) ?_ rfl (shp_fin (Z H1) rfl rfl (by simp));change (shW w W1 0 [⟨a1,b1,l1⟩]).cell? _ = _ at d0 d1;generalize shW w W1 0 [⟨a1,b1,l1⟩]=V9 at d0 d1 |-;simp[results,Tryz.f106,go_sem,d0,d1]
abbrev shape4_any (w:World):=(iW w).1
abbrev shape5_any (w:World):=(iW w).2.1
abbrev shape6_any (w:World):=(iW w).2.2.1
abbrev shape7_any (w:World):=(iW w).2.2.2.1
abbrev shape9_any (w:World):=(iW w).2.2.2.2
theorem shapeN_any (k:Int)(w:World)(h:¬ (1<=k/\k<=9)):Calls Tryz.prog 106 #[H k] w fun e w'=>eZ k w e w':=by
 have HE:Hid (∀w',yn w w'->eZ k w (.returned (.agg #[H 0,.slice none 0 0])) w'):=fun w' A=>by
  have D:shC k=0:=if_neg (by omega);have E:shF k = []:=by unfold shF;rw[if_neg (by omega),if_neg (by omega),if_neg (by omega),if_neg (by omega),if_neg (by omega)]
  unfold eZ;rw[D,E];exact⟨_,[],rfl,⟨none,0,rfl,by simp,fun h=>absurd rfl h⟩,trivial,A⟩
 have e1:(k==1)=false:=xd.2 (by omega);have e2:(k==2)=false:=xd.2 (by omega);have e3:(k==3)=false:=xd.2 (by omega);have e4:(k==4)=false:=xd.2 (by omega);have e5:(k==5)=false:=xd.2 (by omega);have e6:(k==6)=false:=xd.2 (by omega);have e7:(k==7)=false:=xd.2 (by omega);have e8:(k==8)=false:=xd.2 (by omega);have e9:(k==9)=false:=xd.2 (by omega);clear h;go_enter Tryz.func106,Tryz.ntmps106;go_wp2_with fail;go_returns;exact Z HE _ (by go_grown)
theorem shape_any (k:Int)(w:World):Calls Tryz.prog 106 #[H k] w fun e w'=>eZ k w e w':=by
 by_cases h:1<=k/\k<=9
 ·rcases(show k=1\/k=2\/k=3\/k=4\/k=5\/k=6\/k=7\/k=8\/k=9 by omega) with rfl|rfl|rfl|rfl|rfl|rfl|rfl|rfl|rfl
  ·exact shape1_any w
  ·exact shape2_any w
  ·exact shape3_any w
  ·exact shape4_any w
  ·exact shape5_any w
  ·exact shape6_any w
  ·exact shape7_any w
  ·exact shape8_any w
  ·exact shape9_any w
 ·exact shapeN_any k w h
theorem plc1_any (g:Nat)(w:World):Calls Tryz.prog 190 #[xj g 0] w fun e w'=>e = .returned (xj g 1)/\w'=w:=by
 go_enter Tryz.func190,Tryz.ntmps190;go_wp2;go_ret;exact⟨rfl,rfl⟩
theorem plc2_any (g:Nat)(w:World):Calls Tryz.prog 181 #[xj g 0] w fun e w'=>e = .returned (xj g 2)/\w'=w:=by
 go_enter Tryz.func181,Tryz.ntmps181;go_wp2;go_ret;exact⟨rfl,rfl⟩
theorem plc3_any (g:Nat)(w:World):Calls Tryz.prog 182 #[xj g 0] w fun e w'=>e = .returned (xj g 3)/\w'=w:=by
 go_enter Tryz.func182,Tryz.ntmps182;go_wp2;go_ret;exact⟨rfl,rfl⟩
theorem plc4_any (g:Nat)(w:World):Calls Tryz.prog 183 #[xj g 0] w fun e w'=>e = .returned (xj g 4)/\w'=w:=by
 go_enter Tryz.func183,Tryz.ntmps183;go_wp2;go_ret;exact⟨rfl,rfl⟩
theorem plc5_any (g:Nat)(w:World):Calls Tryz.prog 184 #[xj g 0] w fun e w'=>e = .returned (xj g 5)/\w'=w:=by
 go_enter Tryz.func184,Tryz.ntmps184;go_wp2;go_ret;exact⟨rfl,rfl⟩
theorem plc6_any (g:Nat)(w:World):Calls Tryz.prog 191 #[xj g 0] w fun e w'=>e = .returned (xj g 6)/\w'=w:=by
 go_enter Tryz.func191,Tryz.ntmps191;go_wp2;go_ret;exact⟨rfl,rfl⟩
theorem plc9_any (g:Nat)(w:World):Calls Tryz.prog 189 #[xj g 0] w fun e w'=>e = .returned (xj g 9)/\w'=w:=by
 go_enter Tryz.func189,Tryz.ntmps189;go_wp2;go_ret;exact⟨rfl,rfl⟩
theorem plc10_any (g:Nat)(w:World):Calls Tryz.prog 193 #[xj g 0] w fun e w'=>e = .returned (xj g 10)/\w'=w:=by
 go_enter Tryz.func193,Tryz.ntmps193;go_wp2;go_ret;exact⟨rfl,rfl⟩
theorem plc11_any (g:Nat)(w:World):Calls Tryz.prog 194 #[xj g 0] w fun e w'=>e = .returned (xj g 11)/\w'=w:=by
 go_enter Tryz.func194,Tryz.ntmps194;go_wp2;go_ret;exact⟨rfl,rfl⟩
theorem plc12_any (g:Nat)(w:World):Calls Tryz.prog 195 #[xj g 0] w fun e w'=>e = .returned (xj g 12)/\w'=w:=by
 go_enter Tryz.func195,Tryz.ntmps195;go_wp2;go_ret;exact⟨rfl,rfl⟩
theorem plc13_any (g:Nat)(w:World):Calls Tryz.prog 192 #[xj g 0] w fun e w'=>e = .returned (xj g 13)/\w'=w:=by
 go_enter Tryz.func192,Tryz.ntmps192;go_wp2;go_ret;exact⟨rfl,rfl⟩
def plcO (o:Nat):Bool:=(1<=o&&o<=6)||(9<=o&&o<=13)
theorem plc_any (o g:Nat)(w:World)(h:plcO o=true):Calls Tryz.prog (plcV o) #[xj g 0] w fun e w'=>e = .returned (xj g o)/\w'=w:=by
 rcases(show o=1\/o=2\/o=3\/o=4\/o=5\/o=6\/o=9\/o=10\/o=11\/o=12\/o=13 by simp[plcO] at h;omega) with rfl|rfl|rfl|rfl|rfl|rfl|rfl|rfl|rfl|rfl|rfl
 ·exact plc1_any g w
 ·exact plc2_any g w
 ·exact plc3_any g w
 ·exact plc4_any g w
 ·exact plc5_any g w
 ·exact plc6_any g w
 ·exact plc9_any g w
 ·exact plc10_any g w
 ·exact plc11_any g w
 ·exact plc12_any g w
 ·exact plc13_any g w
structure Rdr (B:Nat) (w:World) (v:Value) (k:Int):Prop where
 bytes:w.cell? ⟨B,0,none⟩=some v
 place:w.cell? ⟨B,1,none⟩=some (.int .i64 k)
 free:w.frozen? ⟨B,1,none⟩=false
theorem Rdr.drewN {B:Nat}{w:World}{v:Value}{k:Int}(h:Rdr B w v k)(n:Nat):Rdr B (w.drewN n) v k:=⟨h.1,h.2,h.3⟩
theorem Rdr.step {B:Nat}{w:World}{v:Value}{k:Int}(h:Rdr B w v k)(m:Int):Rdr B (w.setCell ⟨B,1,none⟩ (H m)) v m:=
 ⟨by rw[yL _ _ _ _ (eu (by omega))];exact h.1,yM _ _ _ h.2,by rw[World.frozen?_setCell];exact h.3⟩
def eE (c k:Int):List PanicEntry:=[{ v:=.iface 107 (.agg #[H c,H k]),recovered:=false }]
theorem fw (B:Nat)(c k:Int)(v:Value)(w:World)(hr:Rdr B w v k) :
  Calls Tryz.prog 39 #[.pointer (some ⟨B,0,none⟩),H c] w fun e w'=>e = .panicked (eE c k)/\w'=w:=by
 have E:=hr.2;clear hr;go_enter Tryz.func39,Tryz.ntmps39;go_wp2;exact⟨rfl,rfl,rfl⟩
theorem iH (B:Nat)(c k:Int)(a:Option Addr)(len cap:Nat)(w:World)(hr:Rdr B w (.slice a len cap) k)(h0:0<=k)(D:k<=len)(hl:len<=1073741824)(hc:(len:Int)-k<c)(qV:c<=1073741824) :
  Calls Tryz.prog 38 #[.pointer (some ⟨B,0,none⟩),H c] w fun e w'=>e = .panicked (eE 3 k)/\∃q,w'=w.drewN q:=by
 have HR:=Q hr;obtain⟨c1,c2,c3⟩:=hr;go_enter Tryz.func38,Tryz.ntmps38;go_wp2_with fail;go_quiet (fail);go_wp2_with fail;refine(fw B 3 k _ _ ((Z HR).drewN _)).mono ?_;rintro e w1 ⟨rfl,rfl⟩;go_wp2_with fail;exact⟨rfl,rfl,_,rfl⟩
theorem take_ok (B:Nat)(c k:Nat)(b off len cap:Nat)(w:World)(hr:Rdr B w (.slice (some ⟨b,off,none⟩) len cap) k)(D:k+c<=len)(hl:len<=1073741824)(xC:len<=cap)(qV:1<=c) :
  Calls Tryz.prog 38 #[.pointer (some ⟨B,0,none⟩),H c] w fun e w'=>e = .returned (.slice (some ⟨b,off+k,none⟩) c (cap-k))/\∃q,w'=(w.setCell ⟨B,1,none⟩ (H (k+c:Nat))).drewN q:=by
 have HR:=Q hr;obtain⟨c1,c2,c3⟩:=hr;have h1':(k:Int)+c<=len:=by omega
 have h2':¬ ((len:Int)-k<c):=by omega
 have h3':(k:Int)+c<=cap:=by omega
 have xy:¬ (cap=k):=by omega
 go_enter Tryz.func38,Tryz.ntmps38;go_wp2_with fail;go_quiet (fail);go_wp2_with fail;go_quiet (fail);go_wp2_with fail;go_ret;refine⟨by simp,_,by congr 3⟩
theorem check_ok (B:Nat)(k:Int)(a:Option Addr)(len cap:Nat)(w:World)(hr:Rdr B w (.slice a len cap) k)(h0:0<=k)(D:k<=len)(hl:len<=65536) :
  Calls Tryz.prog 56 #[.pointer (some ⟨B,0,none⟩)] w fun e w'=>e = .returned (.tuple #[])/\∃q,w'=w.drewN q:=by
 obtain⟨c1,c2,c3⟩:=hr;have kQ:(len:Int)<=65536:=by omega
 have hd:decide (k<0)=false:=by simpa using h0
 go_enter Tryz.func56,Tryz.ntmps56;go_wp2_with fail;go_quiet (fail);go_wp2_with fail;go_end0;exact⟨rfl,_,rfl⟩
theorem check_long (B:Nat)(k:Int)(a:Option Addr)(len cap:Nat)(w:World)(hr:Rdr B w (.slice a len cap) k)(hl:65536<len) :
  Calls Tryz.prog 56 #[.pointer (some ⟨B,0,none⟩)] w fun e w'=>e = .panicked (eE 2 k)/\∃q,w'=w.drewN q:=by
 have HR:=Q hr;obtain⟨c1,c2,c3⟩:=hr;have kQ:(65536:Int)<len:=by omega
 go_enter Tryz.func56,Tryz.ntmps56;go_wp2_with fail;refine(fw B 2 k _ _ (Z HR)).mono ?_;rintro e w1 ⟨rfl,rfl⟩;go_wp2_with fail;exact⟨rfl,rfl,0,rfl⟩
theorem check_out (B:Nat)(k:Int)(a:Option Addr)(len cap:Nat)(w:World)(hr:Rdr B w (.slice a len cap) k)(h:k<0\/(len:Int)<k)(hl:len<=65536) :
  Calls Tryz.prog 56 #[.pointer (some ⟨B,0,none⟩)] w fun e w'=>e = .panicked (eE 5 k)/\∃q,w'=w.drewN q:=by
 have HR:=Q hr;obtain⟨c1,c2,c3⟩:=hr;have kQ:(len:Int)<=65536:=by omega
 rcases(show k<0\/(0<=k/\(len:Int)<k) by omega) with h0|⟨h0,D⟩
 ·have hd:decide (k<0)=true:=by simpa using h0
  clear h;go_enter Tryz.func56,Tryz.ntmps56;go_wp2_with fail;go_quiet (fail);go_wp2_with fail;refine(fw B 5 k _ _ ((Z HR).drewN _)).mono ?_;rintro e w1 ⟨rfl,rfl⟩;go_wp2_with fail;exact⟨rfl,rfl,_,rfl⟩
 ·have hd:decide (k<0)=false:=by simpa using h0
  clear h;go_enter Tryz.func56,Tryz.ntmps56;go_wp2_with fail;go_quiet (fail);go_wp2_with fail;refine(fw B 5 k _ _ ((Z HR).drewN _)).mono ?_;rintro e w1 ⟨rfl,rfl⟩;go_wp2_with fail;exact⟨rfl,rfl,_,rfl⟩
end Go.Proofs.YtbghmldggahjiaaGreatDoor
namespace Go.Proofs.YtbghmldggahjiaaGreatDoor
open Go
open Go.RowKit (wrap64)
def scan (l:List Int)(at_:Nat):Nat->Nat->Nat->Option (Nat × Nat)
 | 0,_,_=>none
 | f+1,i,u =>
  if l.length<=at_ + i then none
  else if (i=9/\1<l.getD (at_ + i) 0)\/(0<i/\l.getD (at_ + i) 0=0) then none
  else if l.getD (at_ + i) 0<128 then some (u+(l.getD (at_ + i) 0 % 128).toNat*128 ^ i,at_ + i+1)
  else scan l at_ f (i+1) (u+(l.getD (at_ + i) 0 % 128).toNat*128 ^ i)
def getU (l:List Int)(at_:Nat):Option (Nat × Nat):=scan l at_ 10 0 0
def unz (u:Nat):Int:=if u % 2=1 then -((u / 2:Nat):Int)-1 else((u / 2:Nat):Int)
theorem pow_le9 (i:Nat)(h:i<=9):128 ^ i<=9223372036854775808:=
 yN (Nat.pow_le_pow_right (by omega) h) (by decide)
theorem pow_two (i:Nat):(2:Nat) ^ (7*i)=128 ^ i:=by rw[Nat.pow_mul]
theorem step_lt (c:Int)(i u:Nat)(hi:i<=9)(hu:u<128 ^ i)(jn:0<=c)(qV:c<=255)(h9:i=9->c<=1) :
  u+(c % 128).toNat*128 ^ i<18446744073709551616/\u+(c % 128).toNat*128 ^ i<128 ^ (i+1):=by
 have hp:=pow_le9 i hi;have hm:(c % 128).toNat<=127:=by omega
 constructor
 ·by_cases h:i=9
  ·subst h;have:=h9 rfl;have cB:(c % 128).toNat<=1:=by omega
   have e9:(128:Nat) ^ 9=9223372036854775808:=by decide
   rw[e9] at *;omega
  ·have h8:128 ^ i<=72057594037927936:=yN (Nat.pow_le_pow_right (by omega) (show i<=8 by omega)) (by decide);have:(c % 128).toNat*128 ^ i<=127*72057594037927936:=Nat.mul_le_mul hm h8;omega
 ·rw[Nat.pow_succ];have:(c % 128).toNat*128 ^ i<=127*128 ^ i:=Nat.mul_le_mul_right _ hm;omega
theorem and127b (c:Int)(h0:0<=c)(D:c<=255):bits .and .u8 c 127=c % 128:=by
 rw[u8_and _ _ (by omega) (by omega) (by omega) (by omega),show(127:Int).toNat=127 from rfl];have e:c.toNat &&& 127=c.toNat % 128:=Nat.and_two_pow_sub_one_eq_mod c.toNat 7;rw[e];omega
theorem or_step (c:Int)(i u:Nat)(hi:i<=9)(hu:u<128 ^ i)(jn:0<=c)(qV:c<=255)(h9:i=9->c<=1) :
  bits .or .u64 (u:Int) (IntKind.u64.wrap (c % 128*2 ^ (7*i)))=((u+(c % 128).toNat*128 ^ i:Nat):Int):=by
 have xH:=(step_lt c i u hi hu jn qV h9).1
 have e2:c % 128*2 ^ (7*i)=(((c % 128).toNat*128 ^ i:Nat):Int):=by
  rw[<- pow_two i];rw[Int.natCast_mul,Int.toNat_of_nonneg (by omega)];congr 1
 rw[e2,IntKind.wrap_u64,Int.emod_eq_of_lt (by omega) (by omega),u64_or_nat _ _ (by omega) (by omega),Nat.or_comm];rw[nat_join (7*i) _ _ (by rw[pow_two];exact Nat.mul_mod_left _ _) (by rw[pow_two];exact hu),Nat.add_comm]
theorem and1 (u:Nat)(h:u<18446744073709551616):bits .and .u64 (u:Int) 1=((u % 2:Nat):Int):=by
 have:=u64_and_nat u 1 h (by omega);rw[show((1:Nat):Int)=1 from rfl] at this;rw[this,nat_mask1]
theorem xor_comm64 (x y:Int):bits .xor .i64 x y=bits .xor .i64 y x:=by
 unfold bits;simp only[BitVec.xor_comm]
theorem xor_zero64 (x:Nat)(h:x<9223372036854775808):bits .xor .i64 (x:Int) 0=x:=by
 have e:bits .xor .i64 (x:Int) 0=IntKind.i64.wrap (((BitVec.ofInt 64 (x:Int)) ^^^ (0#64)).toNat:Nat):=rfl;rw[e,BitVec.xor_zero,ofInt_u64 x (by omega)];simp[IntKind.wrap,IntKind.bits,IntKind.signed];omega
theorem wrap_small (x:Int)(h0:-9223372036854775808<=x)(D:x<=9223372036854775807):wrap64 x=x:=by
 unfold wrap64;omega
theorem unfold_eq (u:Nat)(h:u<18446744073709551616):bits .xor .i64 ((u:Int) / 2) (wrap64 (-wrap64 (bits .and .u64 (u:Int) 1)))=unz u:=by
 rw[and1 u h,wrap_small ((u % 2:Nat):Int) (by omega) (by omega),wrap_small _ (by omega) (by omega)];have e:(u:Int) / 2=((u / 2:Nat):Int):=by omega
 rw[e];unfold unz
 by_cases D:u % 2=1
 ·rw[if_pos D,D,xor_comm64];exact Lib.i64_not _ (by omega)
 ·have h0:u % 2=0:=by omega
  rw[if_neg D,h0];exact xor_zero64 _ (by omega)
end Go.Proofs.YtbghmldggahjiaaGreatDoor
