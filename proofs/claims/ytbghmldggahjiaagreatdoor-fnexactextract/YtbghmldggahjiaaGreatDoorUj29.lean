/-.-/
import Derived.Test.YtbghmldggahjiaaGreatDoorUj28
set_option linter.unusedVariables false
set_option maxHeartbeats 6400000
set_option maxRecDepth 100000
namespace Go.Proofs.YtbghmldggahjiaaGreatDoor
open Go.RowKit
def outR (k:Int):Ending:=if k=0 then .returned (.tuple #[]) else .panicked (brk k)
theorem outR_ok {k:Int}(h:k=0):outR k = .returned (.tuple #[]):=if_pos h
theorem outR_no {k:Int}(h:k≠0):outR k = .panicked (brk k):=if_neg h
theorem iy {e:Ev}(M:e.cmd.g.size<=maxLen):(zV e).g.size<=maxLen:=by
 have hz:(⟨#[]⟩:ByteArray).size<=maxLen:=by decide
 unfold zV zCm
 repeat' split
 all_goals first|exact M|exact hz
theorem start_any {G B r:Nat}{vq:Value}{g:Gr}(e:Ev)(w:World)(h:GS G B r w vq g)(hi:GI g)(X:1<=e.kind/\e.kind<=9)(M:e.cmd.g.size<=maxLen):Calls Tryz.prog 95 #[xj G 0,evV e] w fun x w'=>x=outR (zX g e)/\yn w w':=by
 have hsf:=sfl;have hG:=h.lt;have jj:=Q (fun W=>toldCmd_any e W X);have pq:=Q (iy M);have qO:Hid (zX g e=if g.bg≠0 then 3 else if refR g.nx g.l (zV e)≠0 then 5 else 0):=rfl
 generalize zV e=c at jj pq qO;generalize zR e.kind=sb at jj;generalize zX g e=sr at qO |-;obtain⟨xl,⟨ck,cs,ct,cl,cq,ci,cp,cg⟩,id,xh,qty,xi,xg⟩:=e;unfold evV at jj |-;simp only at jj |-;obtain⟨xA,HX⟩:=lY w (yv xl ck cs ct cl cq ci cp cg id xh qty xi xg) 89;have HS:Hid ((w.alloc (J (yv xl ck cs ct cl cq ci cp cg id xh qty xi xg).toArray 89)).heap.size=w.heap.size+1):=by show _ = _;simp
 have HG:=Q (zu h xA);have HB:=Q xA;have HI:=Q hi;clear h xA hi X M;go_enter Tryz.func95,Tryz.ntmps95;refine lX fun ho HK=>?_;go_wp2_with fail;refine Z HK _ _ ?_;clear HK;generalize (w.alloc (J (yv xl ck cs ct cl cq ci cp cg id xh qty xi xg).toArray 89))=W1 at HS HX HG HB |-;have c3:W1.cell? (U G 3)=some (H g.bg):=Y (Z HG).box 3 rfl
 by_cases h0:g.bg=0
 ·have b0:(g.bg==0)=true:=by simpa using h0
  have jM:=Q ((Z HI).good (.inl (by omega)));have vn:=Q ((Z HI).start h0);have HST2:Hid (sr=if refR g.nx g.l c≠0 then 5 else 0):=by show _ = _;rw[Z qO,if_neg (by simpa using h0)]
  clear h0 qO;go_wp2_with fail;refine(eG 3 _).mono ?_;rintro e w2 ⟨rfl,rfl⟩;clear c3 b0;obtain⟨e0,e1,e2,e3,e4,e5,e6,e7,e8,e9,uL,uG,vJ,vu⟩:=yy (Z HX);go_wp2_with fail;refine(Z jj w2).mono ?_;rintro e w3 ⟨rfl,xN⟩;have uD:=Q (zu (Z HG) xN);have xZ:=Q (lW (Z HB) xN);clear e0 e1 e2 e3 e4 e5 e6 e7 e8 e9 uL uG vJ vu xN;obtain⟨dk,ds,dt,dl,dq,di,dp,dg⟩:=c;unfold cmV;simp only;obtain⟨xz,xw⟩:=lY w3 (yx dk ds dt dl dq di dp dg) 57;have uP:=Q (zu (Z uD) xz);have xK:=Q (lW (Z xZ) xz);clear xz uD xZ;have HZ4:Hid (w3.heap.size<(w3.alloc (J (yx dk ds dt dl dq di dp dg).toArray 57)).heap.size):=by show _ < _;simp
  go_wp2_with fail;generalize (w3.alloc (J (yx dk ds dt dl dq di dp dg).toArray 57))=hk at xw uP xK HZ4 |-;have xW:Hid (Bx hk.drew w3.heap.size (yx dk ds dt dl dq di dp dg)):=zm (Z xw);have qM:Hid (GS G B r hk.drew vq g):=zu (Z uP) ⟨rfl,rfl,rfl,Nat.le_refl _,fun _ _=>rfl⟩;have uk:Hid (yn w hk.drew):=⟨(Z xK).os,(Z xK).tape,(Z xK).output,(Z xK).size,(Z xK).block⟩;clear xw uP xK HX;obtain⟨d0,d1,d2,d3,d4,d5,d6,d7⟩:=yz (Z xW);have c1:hk.drew.cell? (U G 1)=some (H g.nx):=Y (Z qM).box 1 rfl;have c2:hk.drew.cell? (U G 2)=some vq:=Y (Z qM).box 2 rfl;have uU:=Q (zP (Z qM).row (yN (Z HI).len (by decide)));have jS:=Q (oRow_sl (Z qM).row);refine zw 5 (by kernel_rfl) (by kernel_rfl) ?_;simp only[yT,List.take_zero,yU,List.drop_zero]
  repeat still_step
  refine wpStill_nil ?_;clear d0 d1 d2 d3 d4 d5 d6 d7 c1 c2;go_wp2_with fail;refine(refusal_any g.nx vq g.l ⟨dk,ds,dt,dl,dq,di,dp,dg⟩ hk.drew (Z uU) (Z jS) (Z jM) (Z vn).1 (Z vn).2.1 (Z pq)).mono ?_;rintro e w5 ⟨rfl,xX⟩;have uT:=Q (lW (Z uk) xX);clear xX;generalize refR g.nx g.l ⟨dk,ds,dt,dl,dq,di,dp,dg⟩=rr at HST2 |-
  by_cases ks:rr=0
  ·have b1:(rr==0)=true:=by simpa using ks
   have kc:Hid (sr=0):=by show _ = _;rw[Z HST2,if_neg (by simpa using ks)]
   clear ks;go_wp2_with fail;refine(eG 5 _).mono ?_;rintro e w6 ⟨rfl,rfl⟩;go_wp2_with fail;go_end0;exact⟨by rw[Z kc];rfl,Z uT⟩
  ·have b1:(rr==0)=false:=by simpa using ks
   have kc:Hid (sr=5):=by show _ = _;rw[Z HST2,if_pos ks]
   clear ks;go_wp2_with fail;refine(ez 5 _).mono ?_;rintro e w6 ⟨rfl,rfl⟩;go_wp2_with fail;exact⟨rfl,by rw[Z kc];rfl,Z uT⟩
 ·have b0:(g.bg==0)=false:=by simpa using h0
  have HST2:Hid (sr=3):=by show _ = _;rw[Z qO,if_pos h0]
  clear h0;go_wp2_with fail;refine(ez 3 _).mono ?_;rintro e w2 ⟨rfl,rfl⟩;go_wp2_with fail;exact⟨rfl,by rw[Z HST2];rfl,Z HB⟩
def outD (k:Int)(d:Du):Ending:=if k=0 then .returned (duV d) else .panicked (brk k)
theorem outD_ok {k:Int}{d:Du}(h:k=0):outD k d = .returned (duV d):=if_pos h
theorem outD_no {k:Int}{d:Du}(h:k≠0):outD k d = .panicked (brk k):=if_neg h
theorem lq {G B r:Nat}{vq:Value}{g:Gr}(e:Ev)(w:World)(h:GS G B r w vq g)(hi:GI g):Calls Tryz.prog 100 #[xj G 0,evV e] w fun x w'=>x=outD (dueR g e) (dueG g)/\yn w w':=by
 have hsf:=sfl;have hG:=h.lt;have HJ:=Q (fun W=>isJust_any e (dueG g) W);have ai:=Q (fun W hW=>due_any (G:=G) (B:=B) (r:=r) (vq:=vq) (g:=g) W hW hi);have HDR:Hid (dueR g e=if g.bg=0 then 3 else if (dueG g).kind=0 then 8 else if ((dueG g).kind=9\/e.kind=9)/\dO e (dueG g)=false then 14 else 0):=rfl
 generalize dueR g e=dr at HDR |-;generalize dO e (dueG g)=jb at HJ HDR;generalize dueG g=d at HJ ai HDR |-;obtain⟨xl,⟨ck,cs,ct,cl,cq,ci,cp,cg⟩,id,xh,qty,xi,xg⟩:=e;obtain⟨dk,di,dt,dq,dp⟩:=d;unfold evV duV at HJ;unfold evV;unfold duV at ai;simp only at HJ ai HDR |-;have kt:(w.alloc (J (yv xl ck cs ct cl cq ci cp cg id xh qty xi xg).toArray 89)).heap.size=w.heap.size+1:=by simp
 have xA:=lT w (J (yv xl ck cs ct cl cq ci cp cg id xh qty xi xg).toArray 89);have xR:Below (w.heap.size+1) (w.alloc (J (yv xl ck cs ct cl cq ci cp cg id xh qty xi xg).toArray 89)) ((w.alloc (J (yv xl ck cs ct cl cq ci cp cg id xh qty xi xg).toArray 89)).alloc (J #[H 0,H 0,H 0,H 0,H 0] 123)):=(Below.refl _ _).alloc (by rw[kt];omega) _;have HS:Hid (((w.alloc (J (yv xl ck cs ct cl cq ci cp cg id xh qty xi xg).toArray 89)).alloc (J #[H 0,H 0,H 0,H 0,H 0] 123)).heap.size=w.heap.size+1+1):=by show _ = _;simp
 have HX:=Q (zf (zj w (yv xl ck cs ct cl cq ci cp cg id xh qty xi xg) 89) xR (by omega))
 have HY:Hid (Bx ((w.alloc (J (yv xl ck cs ct cl cq ci cp cg id xh qty xi xg).toArray 89)).alloc (J #[H 0,H 0,H 0,H 0,H 0] 123)) (w.heap.size+1) [H 0,H 0,H 0,H 0,H 0]):=by
  have:=zj (w.alloc (J (yv xl ck cs ct cl cq ci cp cg id xh qty xi xg).toArray 89)) [H 0,H 0,H 0,H 0,H 0] 123;rwa[kt] at this
 have HB:Hid (yn w ((w.alloc (J (yv xl ck cs ct cl cq ci cp cg id xh qty xi xg).toArray 89)).alloc (J #[H 0,H 0,H 0,H 0,H 0] 123))):=xA.trans (xR.mono (by omega));have HG:=Q (zu h (Z HB));clear h xA hi xR kt;go_enter Tryz.func100,Tryz.ntmps100;refine lX fun ho HK=>?_;go_wp2_with fail;refine Z HK _ _ ?_;clear HK;generalize ((w.alloc (J (yv xl ck cs ct cl cq ci cp cg id xh qty xi xg).toArray 89)).alloc (J #[H 0,H 0,H 0,H 0,H 0] 123))=W1 at HS HX HY HG HB |-;have c3:W1.cell? (U G 3)=some (H g.bg):=Y (Z HG).box 3 rfl
 by_cases h0:g.bg=0
 ·have b0:(g.bg != 0)=false:=by simpa using h0
  have HQ:Hid (dr=3):=by show _ = _;rw[Z HDR,if_pos h0]
  clear h0;go_wp2_with fail;refine(ez 3 _).mono ?_;rintro e w6 ⟨rfl,rfl⟩;go_wp2_with fail;exact⟨rfl,by rw[Z HQ];rfl,Z HB⟩
 have b0:(g.bg != 0)=true:=by simpa using h0
 have HDR2:Hid (dr=if dk=0 then 8 else if (dk=9\/xl=9)/\jb=false then 14 else 0):=by show _ = _;rw[Z HDR,if_neg h0]
 clear h0 HDR;go_wp2_with fail;refine(eG 3 _).mono ?_;rintro e w6 ⟨rfl,rfl⟩;clear c3 b0;go_wp2_with fail;refine(Z ai w6 (Z HG)).mono ?_;rintro e w3 ⟨rfl,xN⟩;have hz:=Z HS;have xz:=lT w3 (J #[H dk,H di,H dt,H dq,H dp] 123);have vk:=xN.trans (xz.mono xN.size);have xw:=Q (zf (Z HX) vk (by omega));have oA:=Q (zf (Z HY) vk (by omega));have uP:=Q (zu (Z HG) vk);have xK:=Q (lW (Z HB) vk);have qg:=Q (zj w3 [H dk,H di,H dt,H dq,H dp] 123);have HZ4:Hid (w3.heap.size<(w3.alloc (J #[H dk,H di,H dt,H dq,H dp] 123)).heap.size/\w.heap.size+1<w3.heap.size):=⟨by simp,by have:=xN.size;omega⟩;clear xN xz vk hz HX HY HG HB HS ai
 by_cases oB:dk=0
 ·have b0:(dk != 0)=false:=by simpa using oB
  have HQ:Hid (dr=8):=by show _ = _;rw[Z HDR2,if_pos oB]
  clear oB;go_wp2_with fail;refine(ez 8 _).mono ?_;rintro e w6 ⟨rfl,rfl⟩;go_wp2_with fail;exact⟨rfl,by rw[Z HQ];rfl,Z xK⟩
 have b0:(dk != 0)=true:=by simpa using oB
 have HDR3:Hid (dr=if (dk=9\/xl=9)/\jb=false then 14 else 0):=by show _ = _;rw[Z HDR2,if_neg oB]
 clear oB HDR2;go_wp2_with fail;refine(eG 8 _).mono ?_;rintro e hk ⟨rfl,hX⟩;rw[<- hX] at xw oA uP xK qg HZ4;clear hX b0;have v0:=Y (Z qg) 0 rfl;have e0:=Y (Z xw) 0 rfl
 by_cases h9:dk=9
 ·have b9:(dk==9)=true:=by simpa using h9
  have HOR:Hid (dk=9\/xl=9):=.inl h9;clear h9;obtain⟨e0,e1,e2,e3,e4,e5,e6,e7,e8,e9,uL,uG,vJ,vu⟩:=yy (Z xw);obtain ⟨v0,v1,v2,v3,v4⟩:=q0_5 (Z qg) rfl;go_wp2_with fail;refine(Z HJ hk).mono ?_;rintro e w7 ⟨rfl,qQ⟩;have oK:=Q (zf (Z oA) qQ (by have:=Z HZ4;omega));have HV7:=Q (zf (Z qg) qQ (Z HZ4).1);have kA:=Q (lW (Z xK) qQ);clear qQ e0 e1 e2 e3 e4 e5 e6 e7 e8 e9 uL uG vJ vu v0 v1 v2 v3 v4;cases jb
  ·have HQ:Hid (dr=14):=by show _ = _;rw[Z HDR3,if_pos ⟨Z HOR,rfl⟩]
   go_wp2_with fail;refine(ez 14 _).mono ?_;rintro e w6 ⟨rfl,rfl⟩;go_wp2_with fail;exact⟨rfl,by rw[Z HQ];rfl,Z kA⟩
  ·have HQ:Hid (dr=0):=by show _ = _;rw[Z HDR3,if_neg (by simp)]
   go_wp2_with fail;refine(eG 14 _).mono ?_;rintro e w6 ⟨rfl,rfl⟩;obtain ⟨v0,v1,v2,v3,v4⟩:=q0_5 (Z HV7) rfl;obtain ⟨z0,z1,z2,z3,z4⟩:=q0_5 (Z oK) rfl;obtain ⟨f0,f1,f2,f3,f4⟩:=r0_5 (Z oK) rfl;go_wp2_with fail
   try simp +zetaDelta only[Exit.noGoto_ret]
   change bodyPost _ _ _ _ _ (World.setCells w6 (w.heap.size+1) 0 [H dk,H di,H dt,H dq,H dp]);have xo:Hid ((World.setCells w6 (w.heap.size+1) 0 [H dk,H di,H dt,H dq,H dp]).rangeAt (w.heap.size+1) 0 [H dk,H di,H dt,H dq,H dp]/\yn w (World.setCells w6 (w.heap.size+1) 0 [H dk,H di,H dt,H dq,H dp])):=⟨(zk (Z oK) (by simp only[List.length_cons,List.length_nil])).r,zg (w.heap.size+1) (by omega) [H dk,H di,H dt,H dq,H dp] 0 w6 (Z kA)⟩;generalize World.setCells w6 (w.heap.size+1) 0 [H dk,H di,H dt,H dq,H dp]=WE at xo |-;obtain⟨d0,d1,d2,d3,d4⟩:=yB (Z xo).1
   try simp only[Exit.inBlock,Exit.then]
   refine bodyPost_ret (by simp[results,Tryz.results100,go_sem,d0,d1,d2,d3,d4];try rfl) rfl ?_;exact⟨by rw[Z HQ];rfl,(Z xo).2⟩
 have b9:(dk==9)=false:=by simpa using h9
 by_cases qE:xl=9
 ·have bk9:(xl==9)=true:=by simpa using qE
  have HOR:Hid (dk=9\/xl=9):=.inr qE;clear h9 qE;obtain⟨e0,e1,e2,e3,e4,e5,e6,e7,e8,e9,uL,uG,vJ,vu⟩:=yy (Z xw);obtain ⟨v0,v1,v2,v3,v4⟩:=q0_5 (Z qg) rfl;go_wp2_with fail;refine(Z HJ hk).mono ?_;rintro e w7 ⟨rfl,qQ⟩;have oK:=Q (zf (Z oA) qQ (by have:=Z HZ4;omega));have HV7:=Q (zf (Z qg) qQ (Z HZ4).1);have kA:=Q (lW (Z xK) qQ);clear qQ e0 e1 e2 e3 e4 e5 e6 e7 e8 e9 uL uG vJ vu v0 v1 v2 v3 v4;cases jb
  ·have HQ:Hid (dr=14):=by show _ = _;rw[Z HDR3,if_pos ⟨Z HOR,rfl⟩]
   go_wp2_with fail;refine(ez 14 _).mono ?_;rintro e w6 ⟨rfl,rfl⟩;go_wp2_with fail;exact⟨rfl,by rw[Z HQ];rfl,Z kA⟩
  ·have HQ:Hid (dr=0):=by show _ = _;rw[Z HDR3,if_neg (by simp)]
   go_wp2_with fail;refine(eG 14 _).mono ?_;rintro e w6 ⟨rfl,rfl⟩;obtain ⟨v0,v1,v2,v3,v4⟩:=q0_5 (Z HV7) rfl;obtain ⟨z0,z1,z2,z3,z4⟩:=q0_5 (Z oK) rfl;obtain ⟨f0,f1,f2,f3,f4⟩:=r0_5 (Z oK) rfl;go_wp2_with fail
   try simp +zetaDelta only[Exit.noGoto_ret]
   change bodyPost _ _ _ _ _ (World.setCells w6 (w.heap.size+1) 0 [H dk,H di,H dt,H dq,H dp]);have xo:Hid ((World.setCells w6 (w.heap.size+1) 0 [H dk,H di,H dt,H dq,H dp]).rangeAt (w.heap.size+1) 0 [H dk,H di,H dt,H dq,H dp]/\yn w (World.setCells w6 (w.heap.size+1) 0 [H dk,H di,H dt,H dq,H dp])):=⟨(zk (Z oK) (by simp only[List.length_cons,List.length_nil])).r,zg (w.heap.size+1) (by omega) [H dk,H di,H dt,H dq,H dp] 0 w6 (Z kA)⟩;generalize World.setCells w6 (w.heap.size+1) 0 [H dk,H di,H dt,H dq,H dp]=WE at xo |-;obtain⟨d0,d1,d2,d3,d4⟩:=yB (Z xo).1
   try simp only[Exit.inBlock,Exit.then]
   refine bodyPost_ret (by simp[results,Tryz.results100,go_sem,d0,d1,d2,d3,d4];try rfl) rfl ?_;exact⟨by rw[Z HQ];rfl,(Z xo).2⟩
 have bk9:(xl==9)=false:=by simpa using qE
 have HQ:Hid (dr=0):=by show _ = _;rw[Z HDR3,if_neg (by simp[h9,qE])]
 clear h9 qE;obtain ⟨v0,v1,v2,v3,v4⟩:=q0_5 (Z qg) rfl;obtain ⟨z0,z1,z2,z3,z4⟩:=q0_5 (Z oA) rfl;obtain ⟨f0,f1,f2,f3,f4⟩:=r0_5 (Z oA) rfl;go_wp2_with fail
 try simp +zetaDelta only[Exit.noGoto_ret]
 change bodyPost _ _ _ _ _ (World.setCells hk (w.heap.size+1) 0 [H dk,H di,H dt,H dq,H dp]);have xo:Hid ((World.setCells hk (w.heap.size+1) 0 [H dk,H di,H dt,H dq,H dp]).rangeAt (w.heap.size+1) 0 [H dk,H di,H dt,H dq,H dp]/\yn w (World.setCells hk (w.heap.size+1) 0 [H dk,H di,H dt,H dq,H dp])):=⟨(zk (Z oA) (by simp only[List.length_cons,List.length_nil])).r,zg (w.heap.size+1) (by omega) [H dk,H di,H dt,H dq,H dp] 0 hk (Z xK)⟩;generalize World.setCells hk (w.heap.size+1) 0 [H dk,H di,H dt,H dq,H dp]=WE at xo |-;obtain⟨d0,d1,d2,d3,d4⟩:=yB (Z xo).1
 try simp only[Exit.inBlock,Exit.then]
 refine bodyPost_ret (by simp[results,Tryz.results100,go_sem,d0,d1,d2,d3,d4];try rfl) rfl ?_;exact⟨by rw[Z HQ];rfl,(Z xo).2⟩
theorem l03Better_any (o c:Od)(w:World) :
  Calls Tryz.prog 205 #[.agg (yw o.id o.side o.ticks o.left o.life o.tag).toArray,.agg (yw c.id c.side c.ticks c.left c.life c.tag).toArray] w fun e w'=>e = .returned (.bool (ahdB o c))/\w.grownBy w' none:=by
 by_cases h:o.ticks=c.ticks
 ·have h':(o.ticks==c.ticks)=true:=by simpa using h
  have HA:Hid (ahdB o c=decide (o.id<c.id)):=if_pos h;go_enter Tryz.func205,Tryz.ntmps205;go_wp2_with fail;go_ret;exact⟨zO (Z HA).symm,(World.grownBy_alloc _ _ _).trans (World.grownBy_alloc _ _ _)⟩
 ·have HA:Hid (ahdB o c=(decide (c.ticks<o.ticks)==decide (o.side=1))):=if_neg h;go_enter Tryz.func205,Tryz.ntmps205;go_wp2_with fail;go_ret;exact⟨zO (by rw[Z HA];rfl),(World.grownBy_alloc _ _ _).trans (World.grownBy_alloc _ _ _)⟩
theorem l03Front_any (v:Value)(l:List Od)(sd:Int)(w:World)(hr:RdR Od.vs 6 w v l)(hri:ew l)(hn:l.length<=1000) :
  Calls Tryz.prog 170 #[v,H sd] w fun e w'=>∃k:Int,e = .returned (H k)/\FrPre l sd l.length k/\w.grownBy w' none:=by
 obtain⟨a,cap,rfl,xD,hc⟩:=hr
 have xp:∀(k:Nat) (c:Od),l[k]? = some c->∃b off,a=some (U b off)/\b<w.heap.size/\w.rangeAt b (off+k*6) c.vs:=by
  intro k c X;obtain⟨b,off,D,E,h3⟩:=hc (by intro h;rw[h] at X;simp at X);exact⟨b,off,D,E,h3 k c X⟩
 have HC:=Q xp;have HRI:=Q hri;clear xp hc hri;go_enter Tryz.func170,Tryz.ntmps170;go_wp2_with fail;go_loopw [5,6] (fun bv iv wr=>∃(k:Nat) (best:Int),bv=H best/\k<=l.length/\iv=H k/\Hid (FrPre l sd k best)/\w.grownBy wr none) (fun _ iv _=>l.length-(intOf iv).toNat)
 case atStart=>exact⟨0,-1,rfl,Nat.zero_le _,rfl,.inl ⟨rfl,fun j o hj=>by omega⟩,yR _ _⟩
 case round =>
  obtain⟨k,best,rfl,X,rfl,qz,M⟩:=hrel;have HG:=Q M;clear M
  by_cases xH:k<l.length
  ·obtain⟨c,qk⟩:∃c,l[k]? = some c:=⟨_,yH xH⟩;obtain⟨b,off,rfl,A,xm⟩:=Z HC k c qk;have aB:=Q qk;obtain⟨g0,g1,g2,g3,g4,g5⟩:=zM (zA xm (Z HG) A (by simp));have uq:(k:Int)<l.length:=by omega
   have bI:=Q xm;have HHB:=Q A;clear qk xm
   by_cases hs:c.side=sd
   ·subst hs;rcases Z qz with⟨rfl,vZ⟩|⟨i,o,rfl,hi,kO,bF,hah⟩
    ·have HN:=Q (frPre_first (Z qz) (Z aB) rfl);clear vZ;go_wp2_with fail;go_quiet (fail);go_wp2_with fail;go_roundw
     case rel=>exact⟨k+1,k,rfl,by omega,by go_num,Z HN,gg (Z HG) rfl rfl rfl rfl⟩
     case measure=>simp[intOf];omega
    ·obtain⟨b',oW,pf,cj,kL⟩:=Z HC i o kO;simp only[Option.some.injEq,Addr.mk.injEq,and_true] at pf;obtain⟨rfl,rfl⟩:=pf;obtain⟨e0,e1,e2,e3,e4,e5⟩:=zM (zA kL (Z HG) A (by simp));have hlti:(i:Int)<l.length:=by have:=(yG.1 kO).1;omega
     have vA:¬ ((i:Int)<0):=by omega
     have hi0':decide ((i:Int)<0)=false:=by simp
     have HCEL:Hid (∀w',wr.grownBy w' none->w'.rangeAt b (off+k*6) c.vs/\w'.rangeAt b (off+i*6) o.vs):=fun w' h'=>⟨zA (zA (Z bI) (Z HG) A (by simp)) h' (yJ A (Z HG).size) (by simp),zA (zA kL (Z HG) A (by simp)) h' (yJ A (Z HG).size) (by simp)⟩;have HHI:Hid (l[i]? = some o):=kO;clear hah kO kL bF;go_wp2_with fail;refine iq (W:=wr) (by kernel_rfl) (by kernel_rfl) (yR _ _) ?_
     iterate 19 (
      refine eA (v:=?_) ?_ ?_ ?_;rotate_left
      ·rfl
      ·intro w' ur;obtain⟨c0,c1,c2,c3,c4,c5⟩:=zM (Z HCEL w' ur).1;obtain⟨d0,d1,d2,d3,d4,d5⟩:=zM (Z HCEL w' ur).2;go_simp
       try rfl
      intro ho hK;go_simp;refine hK _ ?_;clear hK ho)
     refine eA (v:=.bool (ahdB c o)) ?_ ?_ ?_
     ·rfl
     ·intro w' ur;go_simp;refine(l03Better_any c o _).mono ?_;rintro e w3 ⟨rfl,uW⟩;exact⟨rfl,ur.trans uW⟩
     intro ho hK;go_simp;refine hK _ ?_;clear hK ho
     iterate 2 (
      refine eA (v:=?_) ?_ ?_ ?_;rotate_left
      ·rfl
      ·intro w' ur;go_simp
       try rfl
      intro ho hK;go_simp;refine hK _ ?_;clear hK ho)
     refine wpQuiet_nil ?_;intro w2 uZ;have ua:=Q ((Z HG).trans uZ);clear uZ g0 g1 g2 g3 g4 g5 e0 e1 e2 e3 e4 e5;cases hah:ahdB c o
     ·have HN:=Q (frPre_worse (Z HRI) (Z qz) (Z HHI) (Z aB) rfl hah);go_wp2_with fail;go_roundw
      case rel=>exact⟨k+1,i,rfl,by omega,by go_num,Z HN,Z ua⟩
      case measure=>simp[intOf];omega
     ·have HN:=Q (frPre_better (Z HRI) (Z qz) (Z HHI) (Z aB) rfl hah);go_wp2_with fail;go_roundw
      case rel=>exact⟨k+1,k,rfl,by omega,by go_num,Z HN,Z ua⟩
      case measure=>simp[intOf];omega
   ·have HN:=Q (frPre_skip (Z qz) (Z aB) hs);have uO:(c.side==sd)=false:=by simpa using hs
    go_wp2_with fail;go_quiet (fail);go_wp2_with fail;go_roundw
    case rel=>exact⟨k+1,best,rfl,by omega,by go_num,Z HN,gg (Z HG) rfl rfl rfl rfl⟩
    case measure=>simp[intOf];omega
  ·go_wp2_with fail;go_ret;have h:=Z qz;rw[show k=l.length by omega] at h;exact⟨_,rfl,h,Z HG⟩
theorem nex_stop {l:List Od}{t:Od}(h:t.left=0):NexS l t (-1):=.inl ⟨rfl,.inl h⟩
theorem nex_none {l:List Od}{t:Od}(h:dN l (othS t.side)=none):NexS l t (-1):=.inl ⟨rfl,.inr (.inl h)⟩
theorem nex_no {l:List Od}{t o:Od}(h:dN l (othS t.side)=some o)(hc:eT t.side t.ticks o=false):NexS l t (-1):=.inl ⟨rfl,.inr (.inr ⟨o,h,hc⟩)⟩
theorem lG (v:Value)(l:List Od)(t:Od)(w:World)(hr:RdR Od.vs 6 w v l)(hri:ew l)(hn:l.length<=1000)(vh:t.side=1\/t.side=2) :
  Calls Tryz.prog 125 #[v,.agg (yw t.id t.side t.ticks t.left t.life t.tag).toArray] w fun e w'=>∃k:Int,e = .returned (H k)/\NexS l t k/\yn w w':=by
 have HR:=Q hr;obtain⟨a,cap,rfl,xD,hc⟩:=hr
 have xp:∀(k:Nat) (c:Od),l[k]? = some c->∃b off,a=some (U b off)/\b<w.heap.size/\w.rangeAt b (off+k*6) c.vs:=by
  intro k c X;obtain⟨b,off,D,E,h3⟩:=hc (by intro h;rw[h] at X;simp at X);exact⟨b,off,D,E,h3 k c X⟩
 have HC:=Q xp;have HRI:=Q hri;have HOT:=Q (oth_of vh);have xI:1<=t.side:=by omega
 have uc:t.side<=2:=by omega
 have ud:Hid (yn w (w.alloc (J (yw t.id t.side t.ticks t.left t.life t.tag).toArray 98))):=lT _ _;have HX:Hid (World.rangeAt (w.alloc (J (yw t.id t.side t.ticks t.left t.life t.tag).toArray 98)) w.heap.size 0 t.vs/\w.heap.size<(w.alloc (J (yw t.id t.side t.ticks t.left t.life t.tag).toArray 98)).heap.size):=⟨zo w t.vs _,by rw[zh];omega⟩;clear xp hc hri vh;go_enter Tryz.func125,Tryz.ntmps125;go_wp2_with fail;generalize (w.alloc (J (yw t.id t.side t.ticks t.left t.life t.tag).toArray 98))=W1 at ud HX |-;refine(l03Front_any _ l _ W1 (zq (Z HR) (Z ud) ya) (Z HRI) hn).mono ?_;rintro e w2 ⟨k,rfl,hf,uZ⟩;have HF:=Q (front_pre (Z HRI) hf);have xq:=Q ((Z ud).trans ((fZ uZ (fun g M=>by cases M) ya).mono (Z ud).size));have xF:=Q (zA (Z HX).1 uZ (Z HX).2 (by simp));have hlt2:w.heap.size<w2.heap.size:=yJ (Z HX).2 uZ.size
 have HC2:Hid (∀(k:Nat) (c:Od),l[k]? = some c->∃b off,a=some (U b off)/\b<w2.heap.size/\w2.rangeAt b (off+k*6) c.vs):=fun k c X=>by
  obtain⟨b,off,D,E,h3⟩:=Z HC k c X;exact⟨b,off,D,by omega,zd h3 (Z xq) E⟩
 obtain⟨t0,t1,t2,t3,t4,t5⟩:=zM (Z xF);clear hf uZ xI uc
 by_cases h0:t.left=0
 ·have HN:=Q (nex_stop (l:=l) h0);have b0:(t.left==0)=true:=by simpa using h0
  clear h0;go_wp2_with fail;go_quiet (fail);go_wp2_with fail;go_ret;exact⟨_,rfl,Z HN,zp (Z xq) _⟩
 have b0:(t.left==0)=false:=by simpa using h0
 rcases Z HF with⟨rfl,vZ⟩|⟨i,o,rfl,hi,kO,bB⟩
 ·have HN:=Q (nex_none (l:=l) (t:=t) (by rw[<- Z HOT];exact vZ));clear vZ h0;go_wp2_with fail;go_quiet (fail);go_wp2_with fail;go_ret;exact⟨_,rfl,Z HN,zp (Z xq) _⟩
 have HFO:Hid (dN l (othS t.side)=some o):=by rw[<- Z HOT];exact bB
 have HIO:=Q kO;obtain⟨b,off,rfl,A,xm⟩:=Z HC2 i o kO;have HL0:=Q h0;have HCEL:Hid (∀w',w2.grownBy w' none->w'.rangeAt w.heap.size 0 t.vs/\w'.rangeAt b (off+i*6) o.vs):=fun w' h'=>⟨zA (Z xF) h' hlt2 (by simp),zA xm h' A (by simp)⟩;have hlti:(i:Int)<l.length:=by omega
 have vA:¬ ((i:Int)<0):=by omega
 have hi0':decide ((i:Int)<0)=false:=by simp
 clear bB kO xm h0 HF HOT;go_wp2_with fail;refine iq (W:=w2) (by kernel_rfl) (by kernel_rfl) (yR _ _) ?_
 iterate 16 (
  refine eA (v:=?_) ?_ ?_ ?_;rotate_left
  ·rfl
  ·intro w' ur;obtain⟨c0,c1,c2,c3,c4,c5⟩:=zM (Z HCEL w' ur).1;obtain⟨d0,d1,d2,d3,d4,d5⟩:=zM (Z HCEL w' ur).2;go_simp
   try rfl
  intro ho hK;go_simp;refine hK _ ?_;clear hK ho)
 refine eA (v:=.bool (eT t.side t.ticks o)) ?_ ?_ ?_
 ·rfl
 ·intro w' ur;go_simp;refine(l04Crosses_any t.side t.ticks o _).mono ?_;rintro e w3 ⟨rfl,uW⟩;exact⟨rfl,ur.trans (gf uW ya)⟩
 intro ho hK;go_simp;refine hK _ ?_;clear hK ho;cases bx:eT t.side t.ticks o
 ·have HN:=Q (nex_no (Z HFO) bx)
  iterate 2 (
   refine eA (v:=?_) ?_ ?_ ?_;rotate_left
   ·rfl
   ·intro w' ur;go_simp
    try rfl
   intro ho hK;go_simp;refine hK _ ?_;clear hK ho)
  refine wpQuiet_nil ?_;intro w3 uW;have xZ:=Q ((Z xq).grown uW (Z xq).size (fun g M=>by cases M));clear uW;go_wp2_with fail;go_ret;exact⟨_,rfl,Z HN,Z xZ⟩
 ·have HN:Hid (NexS l t i):=.inr ⟨i,o,rfl,hi,Z HIO,Z HFO,bx,Z HL0⟩
  iterate 2 (
   refine eA (v:=?_) ?_ ?_ ?_;rotate_left
   ·rfl
   ·intro w' ur;go_simp
    try rfl
   intro ho hK;go_simp;refine hK _ ?_;clear hK ho)
  refine wpQuiet_nil ?_;intro w3 uW;have xZ:=Q ((Z xq).grown uW (Z xq).size (fun g M=>by cases M));clear uW;go_wp2_with fail;go_ret;exact⟨_,rfl,Z HN,Z xZ⟩
end Go.Proofs.YtbghmldggahjiaaGreatDoor
