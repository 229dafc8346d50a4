/-.-/
import Derived.Test.YthhkapcbocgcoaaGreatDoorKj14
import Derived.Maps.AppendAt
set_option linter.unusedVariables false
set_option maxHeartbeats 6400000
set_option maxRecDepth 100000
namespace Go.Proofs.YthhkapcbocgcoaaGreatDoor
open Go.RowKit
def fd (s:ByteArray):List Int:=putU (zz (cutB s).size)++bl (cutB s)
theorem textL_len (s:ByteArray):0<(fd s).length/\(fd s).length<=1073741824:=by
 have D:=putU_pos (zz (cutB s).size);have Y:=gI s;have h3:=lJ (zz (cutB s).size) (zz_lt _ (by omega) (by omega));rw[fd,yQ,bl_len];omega
theorem implText_any (s:ByteArray)(w:World)(hs:s.size<=maxLen) :
  Calls Tryz.prog 178 #[yk s] w fun e w'=>∃v,e = .returned v/\OwnT w.heap.size w' v (fd s)/\yn w w':=by
 obtain⟨i0,hi,uI,uG,uZ⟩:=info_parts Tryz.infoByte;have hc:=gI s;have HT:=Z (textL_len s).2;have HTL:=Z (show fd s=putU (zz (cutB s).size)++bl (cutB s) from rfl);have HC:=Z (fun w=>implCut_any s w hs);generalize cutB s=c at *;generalize fd s=l at *;clear hs;go_enter Tryz.func178,Tryz.ntmps178;go_wp2_with fail;refine(U HC _).mono ?_;rintro e w0 ⟨rfl,rfl⟩;go_wp2_with fail;refine(implPut_any c.size _ (by omega) (by omega)).mono ?_;rintro e w1 ⟨v1,rfl,Q,E⟩;have HO:=Z Q;have HB:=Z E;clear Q E;go_wp2_with (at_builtin;go_must (refine wpList_append_text _ rfl _ _ 22 9 rfl w0.heap.size 5 i0 Tryz.underlying22 Tryz.underlying9 hi uI uG uZ _ _ rfl (U HO) c rfl (by have:=U HT;rw[U HTL,yQ,bl_len] at this;exact this) (U HB).size ?_);intro v2 w2 aE uD);go_ret;refine⟨_,rfl,by rw[U HTL];exact aE,(U HB).grown uD (U HB).size (OwnT.ge (U HO))⟩
abbrev BRow (W:World)(B:Nat)(v:Value)(l:List Int):Prop:=W.ownsRow B 5 1 v l.length (l.map (Value.int .u8))
theorem iV {W W':World}{B:Nat}{v:Value}{l:List Int}(h:BRow W B v l)(E:yn W W'):BRow W' B v l:=
 World.ownsRow.kept h (row:=none) ⟨E.os,E.tape,E.output,E.size,fun k hk _=>E.block k hk⟩ (by cases v.ownBlock <;> simp)
theorem bRow_more {W:World}{B:Nat}{v:Value}{l m:List Int}(h:W.ownsRow B 5 1 v (l.length+m.length) (l.map (Value.int .u8)++m.map (Value.int .u8))):BRow W B v (l++m):=by
 show W.ownsRow _ _ _ _ (l++m).length _;rw[yQ,List.map_append];exact h
theorem bRow_own {W:World}{B:Nat}{v:Value}{l:List Int}(h:BRow W B v l)(xr:0<l.length)(hl:l.length<=1073741824):OwnT B W v l:=ownT_row xr hl h
theorem me {P:Program}(w:World){ops:Array Oper}{rest:List Oper}{o:Oper}{a:Act}{ho:Exit->Act->World->Prop}(bd:o.guard=none)(s x:Operand)(t:TypeId)
  (Q:o.op = .call { callee:=.builtin .append,args:=#[s,x],argTypes:=#[t,t] })
  (B:Nat) (i:TypeInfo) (ht:P.underlying t=some (.slice 5)) (hi:P.info? 5 = some i) (hz:i.zero=some (.int .u8 0)) (kA:i.size=1) (hby:i.bytes=1)
  (v:Value) (l:List Int) (hs:a.eval s=v) (xY:BRow w B v l) (C:Nat) (vx:Value) (m:List Int) (hx:a.eval x=vx) (hr:OwnT C w vx m)
  (E:l.length+m.length<=1073741824) (hB:B<=w.heap.size)
  (h:∀v' w',BRow w' B v' (l++m)->w.grownBy w' v.ownBlock->(v'.ownBlock=v.ownBlock\/v'.ownBlock=some w.heap.size)->wpList P ops ho rest (a.put o.dst v') w'):wpList P ops ho (o::rest) a w:=by
 obtain⟨g,cap,xA,tt,rfl,_,X,_,_,_,hl,qq⟩:=hr
 refine wpList_append_own_at w bd s x t Q B 5 i (.int .u8 0) 1 1 ht hi hz kA hby rfl (by decide) v l.length (l.map (Value.int .u8)) hs xY (J g 0) m.length cap (m.map (Value.int .u8)) hx (by simp) (fun j u hj=>?_) (fun u hu=>?_)
  (by unfold maxLen;omega) (by omega) hB (fun v' w' D Y _ h4=>h v' w' (bRow_more D) Y h4)
 ·have hj':j<m.length:=by
   rcases Nat.lt_or_ge j m.length with h|h
   ·exact h
   ·rw[List.getElem?_eq_none (by simpa using h)] at hj;cases hj
  rw[List.getElem?_map,yI hj'] at hj;have e:((J g 0):Addr).add j=(J g j):=by unfold Addr.add;split <;> simp_all
  rw[e,cell_head X qq hj'];simpa[hj'] using hj
 ·obtain⟨y,_,rfl⟩:=List.mem_map.1 hu;rfl
def shF (k:Int):List Nat:=if k=1 then[2,3,4,5,7,8,9] else if k=2 then[1,2,3,4,5,6,7,8,13] else if k=3 then[9,10,11,12] else if k=4\/k=5\/k=6\/k=7\/k=9 then[9,11] else if k=8 then[11] else[]
def shC (k:Int):Int:=if k=1 then 1 else 0
def FFs (W:World)(B:Nat):List Nat->List Fc->Prop
 | [],[]=>True
 | o::os,c::F=>FF W B o c/\FFs W B os F
 | _,_=>False
def fy (k:Int)(w:World)(e:Ending)(w':World):Prop:=∃v fs,e = .returned (.agg #[H (shC k),v])/\OwnR Fc.vs 2 w.heap.size w' v fs/\FFs w' w.heap.size (shF k) fs/\yn w w'
theorem ff_set {B o b j:Nat}{W:World}{c:Fc}{u:Value}(h:FF W B o c)(E:b<B):FF (W.setCell (J b j) u) B o c:=by
 unfold FF at h |-;split
 ·rwa[if_pos ‹_›] at h
 ·rw[if_neg ‹_›] at h;split
  ·rwa[if_pos ‹_›] at h
  ·rw[if_neg ‹_›] at h;obtain⟨d,D,Y,h3,h4⟩:=h;refine⟨d,D,Y,by simpa using h3,?_⟩;rw[<- h4];unfold World.cell?;rw[yT _ _ _ _ (by show d≠b;omega)]
theorem fcs_made {B:Nat}(W:World)(fs:List Fc)(t:TypeId)(hB:B<=W.heap.size)(hl:fs.length<=1073741824):OwnR Fc.vs 2 B (W.alloc (mq (fs.flatMap Fc.vs).toArray t)) (.slice (some (J W.heap.size 0)) fs.length fs.length) fs:=by
 refine⟨_,_,rfl,hl,fun _=>⟨W.heap.size,rfl,hB,by simp,fun i c hi=>?_,gk (heap_alloc_new W _) (by rw[List.size_toArray,zY Fc.len];omega)⟩⟩;intro j u hu;have hj:j<2:=(yH.1 hu).1;rw[Nat.zero_add];exact A (zn W (fs.flatMap Fc.vs) t) (i*2+j) ((flat_get Fc.len fs i j c hi hj).trans hu)
theorem ffs_app {W:World}{B o:Nat}{c:Fc}:∀ {os:List Nat} {fs:List Fc},FFs W B os fs->FF W B o c->FFs W B (os ++ [o]) (fs ++ [c])
 | [],[],_,h=>⟨h,trivial⟩
 | _ :: _,_ :: _,D,Y=>⟨D.1,ffs_app D.2 Y⟩
theorem ffs_map {W W':World}{B B':Nat}(hm:∀o c,FF W B o c->FF W' B' o c):∀ {os:List Nat} {fs:List Fc},FFs W B os fs->FFs W' B' os fs
 | [],[],_=>trivial
 | _ :: _,_ :: _,h=>⟨hm _ _ h.1,ffs_map hm h.2⟩
structure SH (w W:World) (os:List Nat) (fs:List Fc):Prop where
 x:Bx W w.heap.size [.int .i64 0,.slice none 0 0]
 b:Below w.heap.size w W
 s:w.heap.size<W.heap.size
 f:FFs W (w.heap.size+1) os fs
theorem sh_start (w:World):SH w (w.alloc (mq #[H 0,.slice none 0 0] 95)) [] []:=⟨zn w [H 0,.slice none 0 0] 95,mn _ _,by simp,trivial⟩
theorem ex {w W W':World}{os:List Nat}{fs:List Fc}{o:Nat}{c:Fc}(h:SH w W os fs)(hf:FF W' W.heap.size o c)(E:yn W W'):SH w W' (os ++ [o]) (fs ++ [c]):=
 ⟨zg h.x E h.s,h.b.trans (E.mono h.b.size),yK h.s E.size,ffs_app (ffs_map (fun _ _ h=>iM h E ya) h.f) (ff_base hf h.s)⟩
def shW (w W:World)(c:Int)(fs:List Fc):World:=((W.setCell (J w.heap.size 0) (H c)).setCell (J w.heap.size 1) (.slice (some (J W.heap.size 0)) fs.length fs.length)).alloc (mq (fs.flatMap Fc.vs).toArray 136)
theorem sh_end {k c:Int}{w W:World}{os:List Nat}{fs:List Fc}(h:SH w W os fs)(Q:shF k=os)(hc:shC k=c)(hl:fs.length<=1073741824):fy k w (.returned (.agg #[H c,.slice (some (J W.heap.size 0)) fs.length fs.length])) (shW w W c fs)/\(shW w W c fs).cell? (J w.heap.size 0)=some (H c)/\(shW w W c fs).cell? (J w.heap.size 1)=some (.slice (some (J W.heap.size 0)) fs.length fs.length):=by
 unfold shW;have bD:=fi (j:=1) (u:=(.slice (some (J W.heap.size 0)) fs.length fs.length)) (fi (j:=0) (u:=H c) h.x (by simp)) (by simp);have hv:((W.setCell (J w.heap.size 0) (H c)).setCell (J w.heap.size 1) (.slice (some (J W.heap.size 0)) fs.length fs.length)).heap.size=W.heap.size:=by simp
 have vG:=(h.b.setCell (p:=(J w.heap.size 0)) ya (H c)).setCell (p:=(J w.heap.size 1)) ya (.slice (some (J W.heap.size 0)) fs.length fs.length);have hf:=ffs_map (fun _ _ h=>ff_set (b:=w.heap.size) (j:=1) (u:=(.slice (some (J W.heap.size 0)) fs.length fs.length)) (ff_set (b:=w.heap.size) (j:=0) (u:=H c) h (by omega)) (by omega)) h.f;generalize ((W.setCell (J w.heap.size 0) (H c)).setCell (J w.heap.size 1) (.slice (some (J W.heap.size 0)) fs.length fs.length))=V at bD hv vG hf |-;have aE:=fcs_made (B:=w.heap.size) V fs 136 vG.size hl;rw[hv] at aE;have hbA:=mn V (mq (fs.flatMap Fc.vs).toArray 136);have hs:=h.s;have hx3:=zg bD hbA (by omega);refine⟨⟨_,_,by rw[hc],aE,?_,vG.alloc vG.size _⟩,A hx3 0 rfl,A hx3 1 rfl⟩;rw[Q];exact ffs_map (fun _ _ h=>ff_base (iM h hbA ya) (by omega)) hf
theorem shp_fin {k c:Int}{w W:World}{os:List Nat}{fs:List Fc}(h:SH w W os fs)(Q:shF k=os)(hc:shC k=c)(hl:fs.length<=1073741824):fy k w (.returned (.agg #[H c,.slice (some (J W.heap.size 0)) fs.length fs.length])) (shW w W c fs):=(sh_end h Q hc hl).1
theorem shape1_any (w:World):Calls Tryz.prog 45 #[H 1] w fun e w'=>fy 1 w e w':=by
 have H0:=Z (sh_start w);go_enter Tryz.func45,Tryz.ntmps45;go_wp2_with fail;generalize (w.alloc (mq #[H 0,.slice none 0 0] 95))=W0 at H0 |-;refine(mk2_fld W0).mono ?_;rintro e W1 ⟨a1,b1,l1,rfl,hf,E⟩;have H1:=Z (ex (U H0) hf E);clear hf E H0;go_wp2_with fail;refine(mk3_fld W1).mono ?_;rintro e W2 ⟨a2,b2,l2,rfl,hf,E⟩;have H2:=Z (ex (U H1) hf E);clear hf E H1;go_wp2_with fail;refine(mk4_fld W2).mono ?_;rintro e W3 ⟨a3,b3,l3,rfl,hf,E⟩;have H3:=Z (ex (U H2) hf E);clear hf E H2;go_wp2_with fail;refine(mk5_fld W3).mono ?_;rintro e W4 ⟨a4,b4,l4,rfl,hf,E⟩;have H4:=Z (ex (U H3) hf E);clear hf E H3;go_wp2_with fail;refine(mk7_fld W4).mono ?_;rintro e W5 ⟨a5,b5,l5,rfl,hf,E⟩;have H5:=Z (ex (U H4) hf E);clear hf E H4;go_wp2_with fail;refine(mk8_fld W5).mono ?_;rintro e W6 ⟨a6,b6,l6,rfl,hf,E⟩;have H6:=Z (ex (U H5) hf E);clear hf E H5;go_wp2_with fail;refine(mk9_fld W6).mono ?_;rintro e W7 ⟨a7,b7,l7,rfl,hf,E⟩;have H7:=Z (ex (U H6) hf E);clear hf E H6;obtain ⟨c0,c1⟩:=q0_2 (U H7).x rfl;obtain ⟨f0,f1⟩:=r0_2 (U H7).x rfl;have hs:=(U H7).s;go_wp2_with fail;clear c0 c1 f0 f1;change bodyPost _ _ _ _ _ (shW w W7 1 [⟨a1,b1,l1⟩,⟨a2,b2,l2⟩,⟨a3,b3,l3⟩,⟨a4,b4,l4⟩,⟨a5,b5,l5⟩,⟨a6,b6,l6⟩,⟨a7,b7,l7⟩]);obtain⟨_,d0,d1⟩:=sh_end (k:=1) (c:=1) (U H7) rfl rfl (by simp);refine bodyPost_ret (v:=.agg #[H 1,.slice (some (J W7.heap.size 0)) 7 7]) ?_ rfl (shp_fin (U H7) rfl rfl (by simp));change (shW w W7 1 [⟨a1,b1,l1⟩,⟨a2,b2,l2⟩,⟨a3,b3,l3⟩,⟨a4,b4,l4⟩,⟨a5,b5,l5⟩,⟨a6,b6,l6⟩,⟨a7,b7,l7⟩]).cell? _ = _ at d0 d1;generalize shW w W7 1 [⟨a1,b1,l1⟩,⟨a2,b2,l2⟩,⟨a3,b3,l3⟩,⟨a4,b4,l4⟩,⟨a5,b5,l5⟩,⟨a6,b6,l6⟩,⟨a7,b7,l7⟩]=V9 at d0 d1 |-;simp[results,Tryz.f45,go_sem,d0,d1]
theorem shape2_any (w:World):Calls Tryz.prog 45 #[H 2] w fun e w'=>fy 2 w e w':=by
 have H0:=Z (sh_start w);go_enter Tryz.func45,Tryz.ntmps45;go_wp2_with fail;generalize (w.alloc (mq #[H 0,.slice none 0 0] 95))=W0 at H0 |-;refine(mk1_fld W0).mono ?_;rintro e W1 ⟨a1,b1,l1,rfl,hf,E⟩;have H1:=Z (ex (U H0) hf E);clear hf E H0;go_wp2_with fail;refine(mk2_fld W1).mono ?_;rintro e W2 ⟨a2,b2,l2,rfl,hf,E⟩;have H2:=Z (ex (U H1) hf E);clear hf E H1;go_wp2_with fail;refine(mk3_fld W2).mono ?_;rintro e W3 ⟨a3,b3,l3,rfl,hf,E⟩;have H3:=Z (ex (U H2) hf E);clear hf E H2;go_wp2_with fail;refine(mk4_fld W3).mono ?_;rintro e W4 ⟨a4,b4,l4,rfl,hf,E⟩;have H4:=Z (ex (U H3) hf E);clear hf E H3;go_wp2_with fail;refine(mk5_fld W4).mono ?_;rintro e W5 ⟨a5,b5,l5,rfl,hf,E⟩;have H5:=Z (ex (U H4) hf E);clear hf E H4;go_wp2_with fail;refine(mk6_fld W5).mono ?_;rintro e W6 ⟨a6,b6,l6,rfl,hf,E⟩;have H6:=Z (ex (U H5) hf E);clear hf E H5;go_wp2_with fail;refine(mk7_fld W6).mono ?_;rintro e W7 ⟨a7,b7,l7,rfl,hf,E⟩;have H7:=Z (ex (U H6) hf E);clear hf E H6;go_wp2_with fail;refine(mk8_fld W7).mono ?_;rintro e W8 ⟨a8,b8,l8,rfl,hf,E⟩;have H8:=Z (ex (U H7) hf E);clear hf E H7;go_wp2_with fail;refine(mk13_fld W8).mono ?_;rintro e W9 ⟨a9,b9,l9,rfl,hf,E⟩;have H9:=Z (ex (U H8) hf E);clear hf E H8;obtain ⟨c0,c1⟩:=q0_2 (U H9).x rfl;obtain ⟨f0,f1⟩:=r0_2 (U H9).x rfl;have hs:=(U H9).s;go_wp2_with fail;clear c0 c1 f0 f1;change bodyPost _ _ _ _ _ (shW w W9 0 [⟨a1,b1,l1⟩,⟨a2,b2,l2⟩,⟨a3,b3,l3⟩,⟨a4,b4,l4⟩,⟨a5,b5,l5⟩,⟨a6,b6,l6⟩,⟨a7,b7,l7⟩,⟨a8,b8,l8⟩,⟨a9,b9,l9⟩]);obtain⟨_,d0,d1⟩:=sh_end (k:=2) (c:=0) (U H9) rfl rfl (by simp);refine bodyPost_ret (v:=.agg #[H 0,.slice (some (J W9.heap.size 0)) 9 9]) ?_ rfl (shp_fin (U H9) rfl rfl (by simp));change (shW w W9 0 [⟨a1,b1,l1⟩,⟨a2,b2,l2⟩,⟨a3,b3,l3⟩,⟨a4,b4,l4⟩,⟨a5,b5,l5⟩,⟨a6,b6,l6⟩,⟨a7,b7,l7⟩,⟨a8,b8,l8⟩,⟨a9,b9,l9⟩]).cell? _ = _ at d0 d1;generalize shW w W9 0 [⟨a1,b1,l1⟩,⟨a2,b2,l2⟩,⟨a3,b3,l3⟩,⟨a4,b4,l4⟩,⟨a5,b5,l5⟩,⟨a6,b6,l6⟩,⟨a7,b7,l7⟩,⟨a8,b8,l8⟩,⟨a9,b9,l9⟩]=V9 at d0 d1 |-;simp[results,Tryz.f45,go_sem,d0,d1]
theorem shape3_any (w:World):Calls Tryz.prog 45 #[H 3] w fun e w'=>fy 3 w e w':=by
 have H0:=Z (sh_start w);go_enter Tryz.func45,Tryz.ntmps45;go_wp2_with fail;generalize (w.alloc (mq #[H 0,.slice none 0 0] 95))=W0 at H0 |-;refine(mk9_fld W0).mono ?_;rintro e W1 ⟨a1,b1,l1,rfl,hf,E⟩;have H1:=Z (ex (U H0) hf E);clear hf E H0;go_wp2_with fail;refine(mk10_fld W1).mono ?_;rintro e W2 ⟨a2,b2,l2,rfl,hf,E⟩;have H2:=Z (ex (U H1) hf E);clear hf E H1;go_wp2_with fail;refine(mk11_fld W2).mono ?_;rintro e W3 ⟨a3,b3,l3,rfl,hf,E⟩;have H3:=Z (ex (U H2) hf E);clear hf E H2;go_wp2_with fail;refine(mk12_fld W3).mono ?_;rintro e W4 ⟨a4,b4,l4,rfl,hf,E⟩;have H4:=Z (ex (U H3) hf E);clear hf E H3;obtain ⟨c0,c1⟩:=q0_2 (U H4).x rfl;obtain ⟨f0,f1⟩:=r0_2 (U H4).x rfl;have hs:=(U H4).s;go_wp2_with fail;clear c0 c1 f0 f1;change bodyPost _ _ _ _ _ (shW w W4 0 [⟨a1,b1,l1⟩,⟨a2,b2,l2⟩,⟨a3,b3,l3⟩,⟨a4,b4,l4⟩]);obtain⟨_,d0,d1⟩:=sh_end (k:=3) (c:=0) (U H4) rfl rfl (by simp);refine bodyPost_ret (v:=.agg #[H 0,.slice (some (J W4.heap.size 0)) 4 4]) ?_ rfl (shp_fin (U H4) rfl rfl (by simp));change (shW w W4 0 [⟨a1,b1,l1⟩,⟨a2,b2,l2⟩,⟨a3,b3,l3⟩,⟨a4,b4,l4⟩]).cell? _ = _ at d0 d1;generalize shW w W4 0 [⟨a1,b1,l1⟩,⟨a2,b2,l2⟩,⟨a3,b3,l3⟩,⟨a4,b4,l4⟩]=V9 at d0 d1 |-;simp[results,Tryz.f45,go_sem,d0,d1]
theorem ld (w:World):(Calls Tryz.prog 45 #[H 4] w fun e w'=>fy 4 w e w')/\(Calls Tryz.prog 45 #[H 5] w fun e w'=>fy 5 w e w')/\(Calls Tryz.prog 45 #[H 6] w fun e w'=>fy 6 w e w')/\(Calls Tryz.prog 45 #[H 7] w fun e w'=>fy 7 w e w')/\(Calls Tryz.prog 45 #[H 9] w fun e w'=>fy 9 w e w'):=by
 refine⟨?_,?_,?_,?_,?_⟩
 all_goals
  have H0:=Z (sh_start w);go_enter Tryz.func45,Tryz.ntmps45;go_wp2_with fail;generalize (w.alloc (mq #[H 0,.slice none 0 0] 95))=W0 at H0 |-;refine(mk9_fld W0).mono ?_;rintro e W1 ⟨a1,b1,l1,rfl,hf,E⟩;have H1:=Z (ex (U H0) hf E);clear hf E H0;go_wp2_with fail;refine(mk11_fld W1).mono ?_;rintro e W2 ⟨a2,b2,l2,rfl,hf,E⟩;have H2:=Z (ex (U H1) hf E);clear hf E H1;obtain ⟨c0,c1⟩:=q0_2 (U H2).x rfl;obtain ⟨f0,f1⟩:=r0_2 (U H2).x rfl;have hs:=(U H2).s;go_wp2_with fail;clear c0 c1 f0 f1;change bodyPost _ _ _ _ _ (shW w W2 0 [⟨a1,b1,l1⟩,⟨a2,b2,l2⟩]);obtain⟨_,d0,d1⟩:=sh_end (k:=4) (c:=0) (U H2) rfl rfl (by simp);refine bodyPost_ret (v:=.agg #[H 0,.slice (some (J W2.heap.size 0)) 2 2]) ?_ rfl (shp_fin (U H2) rfl rfl (by simp));change (shW w W2 0 [⟨a1,b1,l1⟩,⟨a2,b2,l2⟩]).cell? _ = _ at d0 d1;generalize shW w W2 0 [⟨a1,b1,l1⟩,⟨a2,b2,l2⟩]=V9 at d0 d1 |-;simp[results,Tryz.f45,go_sem,d0,d1]
theorem shape8_any (w:World):Calls Tryz.prog 45 #[H 8] w fun e w'=>fy 8 w e w':=by
 have H0:=Z (sh_start w);go_enter Tryz.func45,Tryz.ntmps45;go_wp2_with fail;generalize (w.alloc (mq #[H 0,.slice none 0 0] 95))=W0 at H0 |-;refine(mk11_fld W0).mono ?_;rintro e W1 ⟨a1,b1,l1,rfl,hf,E⟩;have H1:=Z (ex (U H0) hf E);clear hf E H0;obtain ⟨c0,c1⟩:=q0_2 (U H1).x rfl;obtain ⟨f0,f1⟩:=r0_2 (U H1).x rfl;have hs:=(U H1).s;go_wp2_with fail;clear c0 c1 f0 f1;change bodyPost _ _ _ _ _ (shW w W1 0 [⟨a1,b1,l1⟩]);obtain⟨_,d0,d1⟩:=sh_end (k:=8) (c:=0) (U H1) rfl rfl (by simp);refine bodyPost_ret (v:=.agg #[H 0,.slice (some (J W1.heap.size 0)) 1 1]) ?_ rfl (shp_fin (U H1) rfl rfl (by simp));change (shW w W1 0 [⟨a1,b1,l1⟩]).cell? _ = _ at d0 d1;generalize shW w W1 0 [⟨a1,b1,l1⟩]=V9 at d0 d1 |-;simp[results,Tryz.f45,go_sem,d0,d1]
abbrev shape4_any (w:World):=(ld w).1
abbrev shape5_any (w:World):=(ld w).2.1
abbrev shape6_any (w:World):=(ld w).2.2.1
abbrev shape7_any (w:World):=(ld w).2.2.2.1
abbrev shape9_any (w:World):=(ld w).2.2.2.2
end Go.Proofs.YthhkapcbocgcoaaGreatDoor
