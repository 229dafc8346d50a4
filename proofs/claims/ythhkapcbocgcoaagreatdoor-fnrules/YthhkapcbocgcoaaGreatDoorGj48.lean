/-
  A command done on a book, by the model: proved by walking the function.
-/
import Derived.Test.YthhkapcbocgcoaaGreatDoorGj46
import Derived.Test.YthhkapcbocgcoaaGreatDoorGj47
set_option linter.unusedVariables false
set_option maxHeartbeats 6400000
set_option maxRecDepth 100000
namespace Go.Proofs.YthhkapcbocgcoaaGreatDoor
open Go.RowKit
theorem l04Step_a (next:Int) (vb:Value) (l:List Od) (c:Cm) (w:World) (jh:refR next l c = 0∧c.k = 1) (hr:RdR Od.vs 6 w vb l) (hs:SlOk vb) (hg:GoodL l) (ui:∀ x ∈ l,x.side = 1 ∨ x.side = 2) (h0:0 ≤ next) (Q:next ≤ 1000000) (ht:c.g.size ≤ maxLen) :
  Calls Tryz.prog 16 #[.agg #[H next,vb],cmV c] w fun e w'=>∃ vq vg,e = ym (.tuple #[.agg #[H (stN next l c),vq],vg])∧ORow w' w.heap.size vq (stL next l c)∧ERow w' w.heap.size vg (stE next l c)∧yn w w':=by
 obtain ⟨i0,uJ,uD,uz,uM⟩:=info_parts Tryz.infoOrder
 obtain ⟨j0,jM,bh,hy1,hy2⟩:=info_parts infoEv
 have HR:=M hr
 have qn:=M hs
 have HG:=M hg
 have ky:=M ht
 have ju:=hg.len
 have uO:Hid (0 ≤ next∧next ≤ 1000000):=⟨h0,Q⟩
 have uL:=M (fun (W:World) hW=>fO next vb l c W hW hs hg ui ht)
 rw [ref_eq] at uL
 have HK:=M (@fK next l c)
 have HQ:=M (@fg next l c)
 have kK:=M (@ref_id next l c)
 have jR:=M (@ref_newS next l c)
 have uy:=M jh
 clear jh
 have vW:Hid (stN next l c = if refR next l c = 0∧c.k = 1 then next + 1 else next):=rfl
 have uA:=M (stL.eq_1 next l c)
 have vO:=M (stE.eq_1 next l c)
 have kZ:=M (fun W=>fN c W ht)
 have ja:=M (fun (a:Option Addr) (n cap:Nat) (W:World)=>fx next a n cap c W)
 have kw:=M (fun (v:Value) (W:World) hr hs hp jO jl=>fw v l c next W hr hg hs hp jO jl)
 obtain ⟨a,cap,rfl,jg,hc⟩:=hr
 obtain ⟨kk,s,ty,li,qt,ii,pr,tg⟩:=c
 generalize stN next l ⟨kk,s,ty,li,qt,ii,pr,tg⟩ = sN at vW ⊢
 generalize stL next l ⟨kk,s,ty,li,qt,ii,pr,tg⟩ = sL at uA ⊢
 generalize stE next l ⟨kk,s,ty,li,qt,ii,pr,tg⟩ = sE at vO ⊢
 generalize refR next l ⟨kk,s,ty,li,qt,ii,pr,tg⟩ = rr at uL vW uA vO HK HQ kK jR uy
 unfold cmV at uL ja ⊢
 simp only at uL vW uA vO HK HQ kK jR kZ ja kw ky uy ⊢
 have HB:=M (box3 w [H next,.slice a l.length cap] (yx kk s ty li qt ii pr tg) [H 0,.slice none 0 0] 27 33 27)
 clear hs hg ui h0 Q ht hc jg
 go_enter Tryz.func16,Tryz.ntmps16
 refine ic fun xh xK=>?_
 go_wp2_with fail
 refine U xK _ _ ?_
 clear xK
 change Hid ((((w.alloc (O #[H next,.slice a l.length cap] 27)).alloc (O (yx kk s ty li qt ii pr tg).toArray 33)).alloc (O #[H 0,.slice none 0 0] 27)).heap.size = w.heap.size + 3∧World.rangeAt (((w.alloc (O #[H next,.slice a l.length cap] 27)).alloc (O (yx kk s ty li qt ii pr tg).toArray 33)).alloc (O #[H 0,.slice none 0 0] 27)) w.heap.size 0 [H next,.slice a l.length cap]∧World.rangeAt (((w.alloc (O #[H next,.slice a l.length cap] 27)).alloc (O (yx kk s ty li qt ii pr tg).toArray 33)).alloc (O #[H 0,.slice none 0 0] 27)) (w.heap.size + 1) 0 (yx kk s ty li qt ii pr tg)∧World.rangeAt (((w.alloc (O #[H next,.slice a l.length cap] 27)).alloc (O (yx kk s ty li qt ii pr tg).toArray 33)).alloc (O #[H 0,.slice none 0 0] 27)) (w.heap.size + 1 + 1) 0 [H 0,.slice none 0 0]∧World.there (((w.alloc (O #[H next,.slice a l.length cap] 27)).alloc (O (yx kk s ty li qt ii pr tg).toArray 33)).alloc (O #[H 0,.slice none 0 0] 27)) (w.heap.size + 1 + 1) 0 2∧yn w (((w.alloc (O #[H next,.slice a l.length cap] 27)).alloc (O (yx kk s ty li qt ii pr tg).toArray 33)).alloc (O #[H 0,.slice none 0 0] 27))) at HB
 generalize (((w.alloc (O #[H next,.slice a l.length cap] 27)).alloc (O (yx kk s ty li qt ii pr tg).toArray 33)).alloc (O #[H 0,.slice none 0 0] 27)) = h3 at HB ⊢
 have xL:Hid (∀ W:World,yn h3 W→W.cell? (yq w 0) = some (H next)∧W.cell? (yq w 1) = some (.slice a l.length cap)∧W.cell? (J (w.heap.size + 1) 0) = some (H kk)∧W.cell? (J (w.heap.size + 1) 1) = some (H s)∧W.cell? (J (w.heap.size + 1) 2) = some (H ty)∧W.cell? (J (w.heap.size + 1) 3) = some (H li)∧W.cell? (J (w.heap.size + 1) 4) = some (H qt)∧W.cell? (J (w.heap.size + 1) 5) = some (H ii)∧W.cell? (J (w.heap.size + 1) 6) = some (yj pr)∧W.cell? (J (w.heap.size + 1) 7) = some (yk tg)):=fun W hW =>
  have p:=zc (U HB).2.1 hW (by have:=(U HB).1; omega)
  have q:=zc (U HB).2.2.1 hW (by have:=(U HB).1; omega)
  ⟨p 0 _ rfl,p 1 _ rfl,q 0 _ rfl,q 1 _ rfl,q 2 _ rfl,q 3 _ rfl,q 4 _ rfl,q 5 _ rfl,q 6 _ rfl,q 7 _ rfl⟩
 have vL:w.heap.size + 1 + 1 < h3.heap.size:=by have:=(U HB).1; omega
 refine wp_seq_k fun xh hK=>?_
 have HT:∀ (a6:Option Addr) (c6:Nat) (w1:World),ORow w1 h3.heap.size (.slice a6 l.length c6) l→yn h3 w1→xh { tmps:=#[.agg #[H next,.slice a l.length cap],.agg (yx kk s ty li qt ii pr tg).toArray,yp w 0,I (w.heap.size + 1) 0,I (w.heap.size + 1 + 1) 0,.slice none 0 0,.slice a6 l.length c6,Z,Z,Z,Z,Z,Z,Z,Z,Z,Z,Z,.slice (some (yq h3 0)) 0 0,yp w 1,.slice a l.length cap,.slice a6 l.length c6,Z,Z,Z,Z,Z,Z,Z,Z,Z,Z,Z,Z,Z,Z,Z,Z,Z,Z,Z,Z,Z,Z,Z,Z,Z,Z,Z,Z,Z,Z,Z,Z,Z,Z,Z,Z,Z,Z,Z,Z,Z,Z,Z,Z,Z,Z,Z,Z,Z,Z,Z,Z,Z,Z,Z,Z,Z,Z,Z,Z,Z,Z,Z,Z,Z,Z,Z,Z,Z,Z,Z,Z,Z,Z,Z,Z,Z,Z,Z,Z,Z,Z,Z,Z,Z,Z,Z,Z,Z,Z,Z,Z,Z,Z,Z,Z,Z,Z,Z,Z,Z,Z,Z,Z,Z,Z,Z,Z,Z,Z,Z,Z,Z,Z,Z,Z,Z,Z,Z,Z,Z,Z,Z,Z,Z,Z,Z,Z,Z,Z,Z,Z,Z,Z,Z,Z,Z,Z,Z,Z,Z,Z,Z,Z,Z,Z,Z,Z,Z],defers:=[] } w1:=by
  intro a6 c6 w1 qA ub
  refine hK _ _ ?_
  clear hK
  have vv:=M qA
  have xU:=M ub
  clear qA ub
  obtain ⟨z0,z1,y0,y1,y2,y3,y4,y5,y6,y7⟩:=U xL w1 (U xU)
  refine ic fun xh xK=>?_
  go_wp2_with fail
  refine (U uL w1 (zh (U HR) ((U HB).2.2.2.2.2.trans ((U xU).mono (U HB).2.2.2.2.2.size)) hU)).mono ?_
  rintro e w2 ⟨rfl,xP⟩
  have qy:=M (zp (U vv) xP)
  have xt:=M (ia (U xU) xP)
  clear z0 z1 y0 y1 y2 y3 y4 y5 y6 y7 xP vv
  obtain ⟨z0,z1,y0,y1,y2,y3,y4,y5,y6,y7⟩:=U xL w2 (U xt)
  have qd:=M (zk (U HB).2.2.2.2.1 (U xt) vL)
  have pm:w.heap.size + 1 + 1 < w2.heap.size:=yK vL (U xt).size
  have xI:=M ((U HB).2.2.2.2.2.trans ((U xt).mono (U HB).2.2.2.2.2.size))
  have hXw:w.heap.size ≤ h3.heap.size:=by omega
  have pK:h3.heap.size ≤ w2.heap.size:=(U xt).size
  have oP:=pK
  by_cases vE:rr = 0
  ·subst vE
   have hkk:=U HK rfl
   rcases hkk with rfl | rfl | rfl | rfl
   ·have hq:=U HQ rfl rfl
    obtain ⟨hss,hpp,htt,hii⟩:=U jR rfl rfl
    have HMTT:=M (fun (v:Value) (W:World) hr=>U kw v W hr hss hpp (by omega) hq.2)
    have HFG:=M (eF (c:=⟨1,s,ty,li,qt,ii,pr,tg⟩) (id:=next) 21 l qt [] (U HG) (by omega) hq.2)
    have HMF:=M (matL_few (c:=⟨1,s,ty,li,qt,ii,pr,tg⟩) (id:=next) 21 l qt [])
    have vH:Hid (sN = next + 1∧sL = (if 0 < (matL ⟨1,s,ty,li,qt,ii,pr,tg⟩ next 21 l qt []).2.1∧bR ty = true then (matL ⟨1,s,ty,li,qt,ii,pr,tg⟩ next 21 l qt []).1 ++ [⟨next,s,tkS pr,(matL ⟨1,s,ty,li,qt,ii,pr,tg⟩ next 21 l qt []).2.1,li,tg⟩] else (matL ⟨1,s,ty,li,qt,ii,pr,tg⟩ next 21 l qt []).1)∧sE = ⟨1,⟨1,s,ty,li,qt,ii,pr,cutB tg⟩,next,0,0,0,0⟩ :: (matL ⟨1,s,ty,li,qt,ii,pr,tg⟩ next 21 l qt []).2.2 ++ (if 0 < (matL ⟨1,s,ty,li,qt,ii,pr,tg⟩ next 21 l qt []).2.1 then [⟨if bR ty = true then 4 else 5,zCm,next,0,(matL ⟨1,s,ty,li,qt,ii,pr,tg⟩ next 21 l qt []).2.1,0,0⟩] else [])):=⟨by rw [U vW,if_pos ⟨rfl,rfl⟩],by rw [U uA,if_pos rfl,if_pos rfl]; exact acc_l hpp,by rw [U vO,if_pos rfl,if_pos rfl,accE,cutB_tag htt,hii]⟩
    generalize matL ⟨1,s,ty,li,qt,ii,pr,tg⟩ next 21 l qt [] = hR at vH HMTT HFG HMF
    obtain ⟨FL,Fl,Ft⟩:=hR
    simp only at vH HMTT HFG HMF
    generalize tkS pr = tt at vH HMTT ja
    have hFL:=(U HFG).1.len
    have hFt:Ft.length ≤ 21:=by simpa using U HMF
    obtain ⟨hn0,hn1⟩:=U uO
    clear vW uA vO HQ kK HK jR kw hpp htt hii hss HFG HMF
    go_wp2_with fail
    refine U xK _ _ ?_
    clear xK
    refine ic fun xh xK=>?_
    go_wp2_with fail
    refine (fC _ l ii w2 (zV (U qy) (by omega))).mono ?_
    generalize plc l ii = pk
    rintro e w3 ⟨rfl,xQ⟩
    have qW:=M (zp (U qy) xQ)
    have xG:=M (ia (U xt) xQ)
    clear xQ z0 z1 y0 y1 y2 y3 y4 y5 y6 y7 qd xI pm oP
    have qd:=M (zk (U HB).2.2.2.2.1 (U xG) vL)
    have pm:w.heap.size + 1 + 1 < w3.heap.size:=yK vL (U xG).size
    have xI:=M ((U HB).2.2.2.2.2.trans ((U xG).mono (U HB).2.2.2.2.2.size))
    have oP:h3.heap.size ≤ w3.heap.size:=(U xG).size
    obtain ⟨z0,z1,y0,y1,y2,y3,y4,y5,y6,y7⟩:=U xL w3 (U xG)
    have HZ0:=M z0
    have jI:=M z1
    have HY0:=M y0
    have HY1:=M y1
    have jj:=M y2
    have HY3:=M y3
    have qu:=M y4
    have HY5:=M y5
    have kA:=M y6
    have jc:=M y7
    go_wp2_with fail
    refine U xK _ _ ?_
    clear xK
    refine ic fun xh xK=>?_
    go_wp2_with fail
    refine U xK _ _ ?_
    clear xK
    refine ic fun xh xK=>?_
    clear z0 z1 y0 y1 y2 y3 y4 y5 y6 y7
    refine zn (RYBA (fun f=>{ tmps:=#[.agg #[H next,.slice a l.length cap],.agg (yx 1 s ty li qt ii pr tg).toArray,yp w 0,I (w.heap.size + 1) 0,I (w.heap.size + 1 + 1) 0,.slice none 0 0,.slice a6 l.length c6,H 0,H pk,Z,Z,Z,Z,Z,f 6,Z,Z,Z,.slice (some (yq h3 0)) 0 0,yp w 1,.slice a l.length cap,.slice a6 l.length c6,.agg #[H next,.slice a l.length cap],.agg (yx 1 s ty li qt ii pr tg).toArray,H 0,H 0,.bool false,Z,Z,Z,Z,Z,Z,Z,Z,Z,.slice a6 l.length c6,I (w.heap.size + 1) 5,H ii,H pk,I (w.heap.size + 1) 0,H 1,.bool false,.bool false,Z,Z,Z,Z,Z,Z,Z,Z,Z,Z,Z,Z,Z,Z,Z,Z,.bool false,.bool false,Z,Z,Z,Z,Z,Z,Z,Z,Z,Z,Z,Z,Z,Z,Z,Z,.bool false,.bool false,Z,Z,Z,Z,Z,Z,Z,Z,Z,Z,Z,Z,Z,Z,Z,Z,Z,Z,Z,Z,Z,Z,Z,Z,Z,Z,Z,Z,Z,Z,Z,Z,Z,Z,Z,Z,Z,Z,Z,Z,Z,Z,Z,Z,Z,f 0,f 1,f 2,f 3,f 4,f 5,Z,Z,Z,Z,Z,Z,Z,Z,Z,Z,Z,Z,Z,Z,Z,Z,Z,Z,Z,Z,Z,Z,Z,Z,Z,Z,Z,Z,Z,Z,Z,Z,Z,Z,Z,Z,Z,Z,Z,Z],defers:=[] }) (CX [.agg (yx 1 s ty li qt ii pr tg).toArray,.agg (yx 1 s ty li qt ii pr (cutB tg)).toArray,yp w 0,H next,.agg (yv 1 1 s ty li qt ii pr (cutB tg) next 0 0 0 0).toArray,Z,Z] [] (w3.heap.size) 0 [] ([])) 5 (Z) (fun f W=>∃ be,f 5 = .slice (some (J be 0)) 1 1∧ERow W w3.heap.size (.slice (some (J be 0)) 1 1) [⟨1,⟨1,s,ty,li,qt,ii,pr,cutB tg⟩,next,0,0,0,0⟩]∧yn h3 W∧ORow W h3.heap.size (.slice a6 l.length c6) l) w3) (by kernel_rfl) ?_ ?_ ?_
    ·exact ⟨fun _=>Z,rfl,ry_start (by decide),ryb_start rfl⟩
    rotate_left
    ·rintro x hb V i op ⟨f,rfl,F,hA⟩ xo hx Y xu K
     have xA:=M F
     have qN:=M hA
     clear hA
     have xj:x[5]? = some false→∀ (p:Addr) u,w3.cell? p = some u→V.cell? p = some u:=fun hn p u hu=>((F.b hn).cell (yL w3 _ hu)).trans hu
     match i,Y with
     | 0,Y =>
      obtain rfl:=ya Y
      have hn:x[5]? = some false:=ch xo 12 0 5 (by kernel_rfl) hx (by simp) xu
      have y0:=xj hn (J (w.heap.size + 1) 0) _ (U HY0)
      have y1:=xj hn (J (w.heap.size + 1) 1) _ (U HY1)
      have y2:=xj hn (J (w.heap.size + 1) 2) _ (U jj)
      have y3:=xj hn (J (w.heap.size + 1) 3) _ (U HY3)
      have y4:=xj hn (J (w.heap.size + 1) 4) _ (U qu)
      have y5:=xj hn (J (w.heap.size + 1) 5) _ (U HY5)
      have y6:=xj hn (J (w.heap.size + 1) 6) _ (U kA)
      have y7:=xj hn (J (w.heap.size + 1) 7) _ (U jc)
      clear K F xo xj
      rw [if_pos (by rfl)];unfold Oper.wp;go_simp
      exact ⟨upd f 0 (.agg (yx 1 s ty li qt ii pr tg).toArray),by simp [upd],cM (U xA) 0 _ hn (by decide) (zT rfl rfl),zZ _ (U qN) (by decide) (by decide)⟩
     | 1,Y =>
      obtain rfl:=ya Y
      have hn:x[5]? = some false:=ch xo 12 1 5 (by kernel_rfl) hx (by simp) xu
      have g0:f 0 = .agg (yx 1 s ty li qt ii pr tg).toArray:=zP (F.c hn 0 (ye K 0 rfl)) rfl rfl
      clear K F xo xj
      rw [if_pos (by rfl)];unfold Oper.wp;go_simp
      refine (U kZ V).mono ?_
      rintro e w4 ⟨rfl,xy⟩
      exact ⟨upd f 1 (.agg (yx 1 s ty li qt ii pr (cutB tg)).toArray),by simp [upd,g0],cM (ry_grow (cx_monoB (by omega)) (U xA) hn xy) 1 _ hn (by decide) (zT rfl rfl),zZ _ (U qN) (by decide) (by decide)⟩
     | 2,Y =>
      obtain rfl:=ya Y
      have hn:x[5]? = some false:=ch xo 12 2 5 (by kernel_rfl) hx (by simp) xu
      clear K F xo xj
      rw [if_pos (by rfl)];unfold Oper.wp;go_simp
      exact ⟨upd f 2 (yp w 0),by simp [upd],cM (U xA) 2 _ hn (by decide) (zT rfl rfl),zZ _ (U qN) (by decide) (by decide)⟩
     | 3,Y =>
      obtain rfl:=ya Y
      have hn:x[5]? = some false:=ch xo 12 3 5 (by kernel_rfl) hx (by simp) xu
      have g2:f 2 = yp w 0:=zP (F.c hn 2 (ye K 2 rfl)) rfl rfl
      have z0:=xj hn (yq w 0) _ (U HZ0)
      clear K F xo xj
      rw [if_pos (by rfl)];unfold Oper.wp;go_simp
      exact ⟨upd f 3 (H next),by simp [upd,g2],cM (U xA) 3 _ hn (by decide) (zT rfl rfl),zZ _ (U qN) (by decide) (by decide)⟩
     | 4,Y =>
      obtain rfl:=ya Y
      have hn:x[5]? = some false:=ch xo 12 4 5 (by kernel_rfl) hx (by simp) xu
      have g1:f 1 = .agg (yx 1 s ty li qt ii pr (cutB tg)).toArray:=zP (F.c hn 1 (ye K 1 rfl)) rfl rfl
      have g3:f 3 = H next:=zP (F.c hn 3 (ye K 3 rfl)) rfl rfl
      clear K F xo xj
      rw [if_pos (by rfl)];unfold Oper.wp;go_simp
      exact ⟨upd f 4 (.agg (yv 1 1 s ty li qt ii pr (cutB tg) next 0 0 0 0).toArray),by simp [upd,g1,g3],cM (U xA) 4 _ hn (by decide) (zT rfl rfl),zZ _ (U qN) (by decide) (by decide)⟩
     | 5,Y =>
      obtain rfl:=ya Y
      have hn:x[5]? = some false:=xu
      have g4:f 4 = .agg (yv 1 1 s ty li qt ii pr (cutB tg) next 0 0 0 0).toArray:=zP (F.c hn 4 (ye K 4 rfl)) rfl rfl
      have oy:x[6]? = some false:=ch xo 12 5 6 (by kernel_rfl) hx (by simp) xu
      have vA:=F.b hn
      have bF:=gZ V (O (yv 1 1 s ty li qt ii pr (cutB tg) next 0 0 0 0).toArray 37)
      have HQQ:Hid (ERow (V.alloc (O (yv 1 1 s ty li qt ii pr (cutB tg) next 0 0 0 0).toArray 37)) w3.heap.size (.slice (some (yq V 0)) 1 1) [⟨1,⟨1,s,ty,li,qt,ii,pr,cutB tg⟩,next,0,0,0,0⟩]∧yn h3 (V.alloc (O (yv 1 1 s ty li qt ii pr (cutB tg) next 0 0 0 0).toArray 37))∧ORow (V.alloc (O (yv 1 1 s ty li qt ii pr (cutB tg) next 0 0 0 0).toArray 37)) h3.heap.size (.slice a6 l.length c6) l):=⟨eRow_one V ⟨1,⟨1,s,ty,li,qt,ii,pr,cutB tg⟩,next,0,0,0,0⟩ vA.size,(ia (U xG) vA).trans (bF.mono (yO (U xG).size vA.size)),zp (zp (U qW) vA) bF⟩
      clear K F xo xj bF vA
      rw [if_pos (by rfl)];unfold Oper.wp;go_simp
      exact ⟨upd f 5 (.slice (some (yq V 0)) 1 1),by simp [upd,g4],ry_write (U xA) hn _ ⟨V.heap.size,zt _ _ _,U HQQ⟩,ryb_write _ (U qN) oy⟩
     | 6,Y =>
      obtain rfl:=ya Y
      have hn:x[5]? = some true:=K ⟨5,.data⟩ (by simp) rfl
      clear K F xo xj
      rw [if_pos (by rfl)];unfold Oper.wp;go_simp
      exact ⟨upd f 6 (f 5),by simp [upd],ry_after (U xA) 6 _ hn (by decide) (fun h=>h),ryb_lay xu⟩
     | n + 7,Y=>simp at Y
    ·rintro x hb V ⟨f,rfl,F,hA⟩ hx xN
     have xp:=zY xN hx (by kernel_rfl)
     have e6:f 6 = f 5:=hA.1 (xp 6 (by simp))
     obtain ⟨be,e5,q1,q2,q3⟩:=F.m (xp 5 (by simp))
     rw [e5] at e6
     refine U xK _ _ ?_
     clear xK
     simp only [e5,e6]
     have HE4:=M q1
     have xO:=M q2
     have oa:=M q3
     have h3V:w3.heap.size ≤ V.heap.size:=by have:=(U HE4).lt be rfl; omega
     clear F hA xp xN hx q1 q2 q3 e5 e6
     generalize f 0 = tm0,f 1 = tm1,f 2 = tm2,f 3 = tm3,f 4 = tm4
     refine ic fun xh xK=>?_
     obtain ⟨z0,z1,y0,y1,y2,y3,y4,y5,y6,y7⟩:=U xL V (U xO)
     go_wp2_with fail
     refine (U ja a l.length cap V).mono ?_
     rintro e w5 ⟨rfl,uj⟩
     have HE5:=M (zN (U HE4) uj)
     have uE:=M (ia (U xO) uj)
     have ax:=M (zp (U oa) uj)
     clear uj z0 z1 y0 y1 y2 y3 y4 y5 y6 y7
     go_wp2_with fail
     refine (U HMTT _ w5 (zV (U ax) (by omega))).mono ?_
     rintro e w6 ⟨v6',ve,rfl,hl6,he6,jW⟩
     have hOm:ORow w6 h3.heap.size v6' FL:=by
      rcases hl6 with ⟨Q,D⟩ | h
      ·rw [Q,show FL = l from D]; exact zp (U ax) jW
      ·exact zR h (U uE).size
     clear hl6
     obtain ⟨am,cm,rfl⟩:=cT hOm
     obtain ⟨ae,ce,rfl⟩:=cT he6
     have kj:=gZ w6 (O (yw next s tt Fl li tg).toArray 65)
     have HE6:=M (zN (zN (U HE5) jW) kj)
     have jy:=M (zN he6 kj)
     have HO6:=M (zp hOm kj)
     have vV:=M ((U uE).trans ((ia jW kj).mono (U uE).size))
     have uY:Hid (World.rangeAt (w6.alloc (O (yw next s tt Fl li tg).toArray 65)) w6.heap.size 0 (yw next s tt Fl li tg)):=zm w6 (yw next s tt Fl li tg) _
     have HTX:Hid (∃ xz,(w6.alloc (O (yw next s tt Fl li tg).toArray 65)).heap[w6.heap.size]? = some (.cells xz 65 (0,0))):=⟨_,heap_alloc_new w6 _⟩
     have hlt6:w6.heap.size < (w6.alloc (O (yw next s tt Fl li tg).toArray 65)).heap.size:=by rw [zi]; omega
     have hX6:h3.heap.size ≤ w6.heap.size:=yO (U uE).size jW.size
     have h35:w3.heap.size ≤ w5.heap.size:=by have:=(U HE5).lt be rfl; omega
     clear kj jW hOm he6
     go_wp2_with fail
     refine U xK _ _ ?_
     clear xK
     generalize (w6.alloc (O (yw next s tt Fl li tg).toArray 65)) = ho at HE6 jy HO6 vV uY HTX hlt6 ⊢
     generalize w6.heap.size = tb at uY HTX hlt6 hX6 ⊢
     have jV:h3.heap.size ≤ w3.heap.size:=(U xG).size
     have hS3:w.heap.size + 1 + 1 < w3.heap.size:=yK vL jV
     refine wp_seq_k fun xh hK=>?_
     have vp:∀ (v14:Value) (W:World),ERow W w3.heap.size v14 (⟨1,⟨1,s,ty,li,qt,ii,pr,cutB tg⟩,next,0,0,0,0⟩ :: Ft)→ORow W h3.heap.size (.slice am FL.length cm) FL→W.rangeAt tb 0 (yw next s tt Fl li tg)→yn h3 W→tb < W.heap.size→w3.heap.size ≤ W.heap.size→xh { tmps:=#[.agg #[H next,.slice a l.length cap],.agg (yx 1 s ty li qt ii pr tg).toArray,yp w 0,I (w.heap.size + 1) 0,I (w.heap.size + 1 + 1) 0,.slice none 0 0,.slice am FL.length cm,H 0,H pk,Z,Z,Z,Z,Z,v14,I tb 0,.slice ae Ft.length ce,Z,.slice (some (yq h3 0)) 0 0,yp w 1,.slice a l.length cap,.slice a6 l.length c6,.agg #[H next,.slice a l.length cap],.agg (yx 1 s ty li qt ii pr tg).toArray,H 0,H 0,.bool false,Z,Z,Z,Z,Z,Z,Z,Z,Z,.slice a6 l.length c6,I (w.heap.size + 1) 5,H ii,H pk,I (w.heap.size + 1) 0,H 1,.bool false,.bool false,Z,Z,Z,Z,Z,Z,Z,Z,Z,Z,Z,Z,Z,Z,Z,Z,.bool false,.bool false,Z,Z,Z,Z,Z,Z,Z,Z,Z,Z,Z,Z,Z,Z,Z,Z,.bool false,.bool false,Z,Z,Z,Z,Z,Z,Z,Z,Z,Z,Z,Z,Z,Z,Z,Z,Z,Z,Z,Z,Z,Z,Z,Z,Z,Z,Z,Z,Z,Z,Z,Z,Z,Z,Z,Z,Z,Z,Z,Z,Z,Z,Z,Z,Z,tm0,tm1,tm2,tm3,tm4,.slice (some (J be 0)) 1 1,.tuple #[.slice am FL.length cm,.agg (yw next s tt Fl li tg).toArray,.slice ae Ft.length ce],.slice a6 l.length c6,.agg #[H next,.slice a l.length cap],.agg (yx 1 s ty li qt ii pr tg).toArray,.agg (yw next s tt qt li tg).toArray,.tuple #[.slice am FL.length cm,.agg (yw next s tt Fl li tg).toArray,.slice ae Ft.length ce],.slice am FL.length cm,.agg (yw next s tt Fl li tg).toArray,.slice ae Ft.length ce,.slice (some (J be 0)) 1 1,.slice ae Ft.length ce,v14,Z,Z,Z,Z,Z,Z,Z,Z,Z,Z,Z,Z,Z,Z,Z,Z,Z,Z,Z,Z,Z,Z,Z,Z,Z,Z,Z,Z],defers:=[] } W:=by
      intro v14 W he Y pT qG htb h3W0
      refine hK _ _ ?_
      clear hK HTX uY HE6 jy HO6 vV hlt6 HE5 ax uE HE4 oa xO HMTT ja kZ
      have hlev:(⟨1,⟨1,s,ty,li,qt,ii,pr,cutB tg⟩,next,0,0,0,0⟩ :: Ft:List Ev).length ≤ 100:=by simp; omega
      generalize hevs:(⟨1,⟨1,s,ty,li,qt,ii,pr,cutB tg⟩,next,0,0,0,0⟩ :: Ft:List Ev) = evs at he hlev
      have HEVS:=M hevs
      have jo:=M he
      have HLV:=M Y
      have HTKV:=M pT
      have xw:=M qG
      clear he Y pT qG hevs
      have q0:W.cell? (J tb 0) = some (H next):=U HTKV 0 _ rfl
      have q3:W.cell? (J tb 3) = some (H Fl):=U HTKV 3 _ rfl
      refine ic fun K3 ku=>?_
      by_cases bE:0 < Fl
      ·have pn:yn W (W.alloc (O (yv 5 0 0 0 0 0 0 0 ⟨#[]⟩ next 0 Fl 0 0).toArray 37)):=gZ _ _
       have hy2:World.cell? (W.alloc (O (yv 5 0 0 0 0 0 0 0 ⟨#[]⟩ next 0 Fl 0 0).toArray 37)) (J (w.heap.size + 1) 2) = some (H ty):=(U xL _ (ia (U xw) pn)).2.2.2.2.1
       have HEW:=M (zN (U jo) pn)
       have HLW:=M (zp (U HLV) pn)
       have oV:=M (ia (U xw) pn)
       have kO:=M (zc (U HTKV) pn htb)
       have H3W:Hid (w3.heap.size ≤ (W.alloc (O (yv 5 0 0 0 0 0 0 0 ⟨#[]⟩ next 0 Fl 0 0).toArray 37)).heap.size):=yO h3W0 pn.size
       have uB:Hid (World.rangeAt (W.alloc (O (yv 5 0 0 0 0 0 0 0 ⟨#[]⟩ next 0 Fl 0 0).toArray 37)) W.heap.size 0 (Ev.vs ⟨5,zCm,next,0,Fl,0,0⟩)):=zm W (Ev.vs ⟨5,zCm,next,0,Fl,0,0⟩) _
       have HXT:Hid (World.there (W.alloc (O (yv 5 0 0 0 0 0 0 0 ⟨#[]⟩ next 0 Fl 0 0).toArray 37)) W.heap.size 0 14):=zM W (Ev.vs ⟨5,zCm,next,0,Fl,0,0⟩) _
       have htb7:tb < (W.alloc (O (yv 5 0 0 0 0 0 0 0 ⟨#[]⟩ next 0 Fl 0 0).toArray 37)).heap.size:=yK htb pn.size
       have hebX:h3.heap.size ≤ W.heap.size:=(U xw).size
       have heb7:W.heap.size < (W.alloc (O (yv 5 0 0 0 0 0 0 0 ⟨#[]⟩ next 0 Fl 0 0).toArray 37)).heap.size:=by rw [zi]; omega
       have htbe:tb ≠ W.heap.size:=by omega
       have HXB:Hid (∃ xz,(W.alloc (O (yv 5 0 0 0 0 0 0 0 ⟨#[]⟩ next 0 Fl 0 0).toArray 37)).heap[W.heap.size]? = some (.cells xz 37 (0,0))):=⟨_,heap_alloc_new W _⟩
       have hebE:Hid (∀ g,v14.ownBlock = some g→g ≠ W.heap.size):=fun g hg=>by have:=((U jo).lt g hg).2; omega
       have hsf:=sfl
       clear pn
       go_wp2_with fail
       refine (eB ty _).mono ?_
       rintro e w' ⟨rfl,uh⟩
       rw [uh]
       clear uh w' q0 q3
       generalize (W.alloc (O (yv 5 0 0 0 0 0 0 0 ⟨#[]⟩ next 0 Fl 0 0).toArray 37)) = W7 at HEW HLW oV kO H3W uB HXT HXB htb7 heb7 hy2 ⊢
       generalize W.heap.size = eb at uB HXT HXB hebX heb7 htbe hebE ⊢
       clear hy2
       cases jP:bR ty
       ·have x0:W7.cell? (J eb 0) = some (H 5):=U uB 0 _ rfl
        have x1:W7.cell? (J eb 1) = some (H 0):=U uB 1 _ rfl
        have x2:W7.cell? (J eb 2) = some (H 0):=U uB 2 _ rfl
        have x3:W7.cell? (J eb 3) = some (H 0):=U uB 3 _ rfl
        have x4:W7.cell? (J eb 4) = some (H 0):=U uB 4 _ rfl
        have x5:W7.cell? (J eb 5) = some (H 0):=U uB 5 _ rfl
        have x6:W7.cell? (J eb 6) = some (H 0):=U uB 6 _ rfl
        have x7:W7.cell? (J eb 7) = some (yj 0):=U uB 7 _ rfl
        have x8:W7.cell? (J eb 8) = some (yk ⟨#[]⟩):=U uB 8 _ rfl
        have x9:W7.cell? (J eb 9) = some (H next):=U uB 9 _ rfl
        have x10:W7.cell? (J eb 10) = some (H 0):=U uB 10 _ rfl
        have x11:W7.cell? (J eb 11) = some (H Fl):=U uB 11 _ rfl
        have x12:W7.cell? (J eb 12) = some (H 0):=U uB 12 _ rfl
        have x13:W7.cell? (J eb 13) = some (H 0):=U uB 13 _ rfl
        have HEA:=M ((U HEW).alloc (O (yv 5 0 0 0 0 0 0 0 ⟨#[]⟩ next 0 Fl 0 0).toArray 37))
        have vG:Hid (yn W7 (W7.alloc (O (yv 5 0 0 0 0 0 0 0 ⟨#[]⟩ next 0 Fl 0 0).toArray 37))):=gZ _ _
        have h3W:w3.heap.size ≤ W7.heap.size:=U H3W
        go_wp2_with (at_builtin; go_must (refine wpList_append_own _ rfl _ _ 28 rfl w3.heap.size 37 j0 _ 14 120 Tryz.underlying28 jM bh hy1 hy2 rfl (by decide) v14 evs.length (evs.flatMap Ev.vs) rfl (U HEA) (yq W7 0) 1 1 (Ev.vs ⟨5,zCm,next,0,Fl,0,0⟩) rfl rfl (cellsQ W7 (Ev.vs ⟨5,zCm,next,0,Fl,0,0⟩) 37) (one_ev ⟨5,zCm,next,0,Fl,0,0⟩) (by unfold maxLen; omega) (by omega) (yO h3W (U vG).size) ?_); intro v5 w9 qB qw _; have ay:=M qB; have HG9:=M qw; clear qB qw)
        have HE9:Hid (ERow w9 w3.heap.size v5 (evs ++ [⟨5,zCm,next,0,Fl,0,0⟩])):=by
         show w9.ownsRow _ _ _ _ (evs ++ [(⟨5,zCm,next,0,Fl,0,0⟩:Ev)]).length _
         rw [yQ,List.flatMap_append]
         simpa using U ay
        have HL9:=M (World.ownsRow.kept (zp (U HLW) (U vG)) (U HG9) (dY (zp (U HLW) (U vG)) (U HEA) (by decide)))
        have qI:Hid (yn h3 w9):=by
         have Q:=(U oV).trans ((U vG).mono (U oV).size)
         exact Q.grown (U HG9) Q.size (fun g hg=>yO jV ((U HEA).lt g hg).1)
        clear ay HG9 HEA vG
        go_wp2_with fail
        refine U ku _ _ ?_
        clear ku
        obtain ⟨z0,z1,y0,y1,y2,y3,y4,y5,y6,y7⟩:=U xL w9 (U qI)
        have qz:=zk (U HB).2.2.2.2.1 (U qI) vL
        obtain ⟨p0,x0,f0⟩:=zg qz (j:=0) (by omega)
        obtain ⟨p1,x1,f1⟩:=zg qz (j:=1) (by omega)
        have aN:=(U HB).2.2.2.2.2.trans ((U qI).mono (U HB).2.2.2.2.2.size)
        have HWF:Hid (yn w ((w9.setCell (J (w.heap.size + 1 + 1) 0) (H (next + 1))).setCell (J (w.heap.size + 1 + 1) 1) (.slice am FL.length cm))):=(aN.setCell (p:=(J (w.heap.size + 1 + 1) 0)) (show w.heap.size ≤ w.heap.size + 1 + 1 by omega) _).setCell (p:=(J (w.heap.size + 1 + 1) 1)) (show w.heap.size ≤ w.heap.size + 1 + 1 by omega) _
        have HEF:Hid (ERow ((w9.setCell (J (w.heap.size + 1 + 1) 0) (H (next + 1))).setCell (J (w.heap.size + 1 + 1) 1) (.slice am FL.length cm)) w.heap.size v5 (evs ++ [⟨5,zCm,next,0,Fl,0,0⟩])):=zR (ed (ed (U HE9) hS3 0 _) hS3 1 _) (by omega)
        have HLF:Hid (ORow ((w9.setCell (J (w.heap.size + 1 + 1) 0) (H (next + 1))).setCell (J (w.heap.size + 1 + 1) 1) (.slice am FL.length cm)) w.heap.size (.slice am FL.length cm) (FL)):=zR (dw (dw (U HL9) vL 0 _) vL 1 _) hXw
        have kI:Hid (((w9.setCell (J (w.heap.size + 1 + 1) 0) (H (next + 1))).setCell (J (w.heap.size + 1 + 1) 1) (.slice am FL.length cm)).cell? (J (w.heap.size + 1 + 1) 0) = some (H (next + 1))):=(yM _ _ _ _ (bZ (by decide))).trans (yN _ _ _ x0)
        have qJ:Hid (((w9.setCell (J (w.heap.size + 1 + 1) 0) (H (next + 1))).setCell (J (w.heap.size + 1 + 1) 1) (.slice am FL.length cm)).cell? (J (w.heap.size + 1 + 1) 1) = some (.slice am FL.length cm)):=yN _ _ _ ((yM _ _ _ _ (bZ (by decide))).trans x1)
        clear qz aN y0 y1 y2 y3 y4 y5 y6 y7
        go_wp2_with fail
        have d0:=U kI
        have d1:=U qJ
        try simp only [Exit.inBlock,Exit.then]
        refine bodyPost_ret (by simp [results,Tryz.results16,go_sem,d0,d1]; try rfl) rfl ?_
        obtain ⟨rfl,kV,kp⟩:=U vH
        rw [if_neg (fun h=>by rw [jP] at h; cases h.2)] at kV
        rw [if_pos bE,if_neg (by rw [jP]; simp),U HEVS] at kp
        subst kV kp
        exact ⟨_,_,rfl,U HLF,U HEF,U HWF⟩
       ·have xe0:W7.cell? (J eb 0) = some (H 5):=U uB 0 _ rfl
        have fe0:W7.frozen? (J eb 0) = false:=(U HXT 0 (by omega)).2
        have HEW8:Hid (ERow (W7.setCell (J eb 0) (H 4)) w3.heap.size v14 evs):=cw (U HEW) (fun e=>U hebE eb e.symm rfl) 0 _
        have HLW8:Hid (ORow (W7.setCell (J eb 0) (H 4)) h3.heap.size (.slice am FL.length cm) FL):=cw (U HLW) (df (U HLW) (U HXB) (by decide)) 0 _
        have HBW8:Hid (yn h3 (W7.setCell (J eb 0) (H 4))):=(U oV).setCell (p:=(J eb 0)) hebX _
        have HTKW8:Hid (World.rangeAt (W7.setCell (J eb 0) (H 4)) tb 0 (yw next s tt Fl li tg)):=fun j u hj=>(yM _ _ _ _ (fun e=>htbe (congrArg Addr.block e).symm)).trans (U kO j u hj)
        have HXR8:Hid (World.rangeAt (W7.setCell (J eb 0) (H 4)) eb 0 (Ev.vs ⟨4,zCm,next,0,Fl,0,0⟩)):=by have:=range_set (j:=0) (u:=H 4) (U uB) (by rw [Ev.len]; decide); exact this
        have H3W8:Hid (w3.heap.size ≤ (W7.setCell (J eb 0) (H 4)).heap.size):=by have:=U H3W; simp only [World.setCell,Array.size_modify]; exact this
        have heb8:eb < (W7.setCell (J eb 0) (H 4)).heap.size:=by simp only [World.setCell,Array.size_modify]; exact heb7
        have htb8:tb < (W7.setCell (J eb 0) (H 4)).heap.size:=by simp only [World.setCell,Array.size_modify]; exact htb7
        clear HEW HLW oV kO uB H3W HXT HXB
        go_wp2_with fail
        clear xe0 fe0
        generalize (W7.setCell (J eb 0) (H 4)) = W8 at HEW8 HLW8 HBW8 HTKW8 HXR8 H3W8 heb8 htb8 ⊢
        have HLW:=M (U HLW8)
        have kO:=M (U HTKW8)
        refine zn (RZBA (fun f=>{ tmps:=#[.agg #[H next,.slice a l.length cap],.agg (yx 1 s ty li qt ii pr tg).toArray,yp w 0,I (w.heap.size + 1) 0,I (w.heap.size + 1 + 1) 0,.slice none 0 0,f 6,H 0,H pk,Z,Z,Z,Z,Z,v14,I tb 0,.slice ae Ft.length ce,I eb 0,.slice (some (yq h3 0)) 0 0,yp w 1,.slice a l.length cap,.slice a6 l.length c6,.agg #[H next,.slice a l.length cap],.agg (yx 1 s ty li qt ii pr tg).toArray,H 0,H 0,.bool false,Z,Z,Z,Z,Z,Z,Z,Z,Z,.slice a6 l.length c6,I (w.heap.size + 1) 5,H ii,H pk,I (w.heap.size + 1) 0,H 1,.bool false,.bool false,Z,Z,Z,Z,Z,Z,Z,Z,Z,Z,Z,Z,Z,Z,Z,Z,.bool false,.bool false,Z,Z,Z,Z,Z,Z,Z,Z,Z,Z,Z,Z,Z,Z,Z,Z,.bool false,.bool false,Z,Z,Z,Z,Z,Z,Z,Z,Z,Z,Z,Z,Z,Z,Z,Z,Z,Z,Z,Z,Z,Z,Z,Z,Z,Z,Z,Z,Z,Z,Z,Z,Z,Z,Z,Z,Z,Z,Z,Z,Z,Z,Z,Z,Z,tm0,tm1,tm2,tm3,tm4,.slice (some (J be 0)) 1 1,.tuple #[.slice am FL.length cm,.agg (yw next s tt Fl li tg).toArray,.slice ae Ft.length ce],.slice a6 l.length c6,.agg #[H next,.slice a l.length cap],.agg (yx 1 s ty li qt ii pr tg).toArray,.agg (yw next s tt qt li tg).toArray,.tuple #[.slice am FL.length cm,.agg (yw next s tt Fl li tg).toArray,.slice ae Ft.length ce],.slice am FL.length cm,.agg (yw next s tt Fl li tg).toArray,.slice ae Ft.length ce,.slice (some (J be 0)) 1 1,.slice ae Ft.length ce,v14,I tb 3,H Fl,.bool true,I tb 0,H next,I tb 3,H Fl,.agg (yv 5 0 0 0 0 0 0 0 ⟨#[]⟩ next 0 Fl 0 0).toArray,I (w.heap.size + 1) 2,H ty,.bool true,I eb 0,f 0,f 1,f 2,f 3,f 4,f 5,Z,Z,Z,Z,Z,Z,Z,Z,Z,Z],defers:=[] }) (CZ (.slice am FL.length cm) (.agg (yw next s tt Fl li tg).toArray)) W8 FL ⟨next,s,tt,Fl,li,tg⟩ (.slice am FL.length cm)) (by kernel_rfl) ?_ ?_ ?_
        ·exact ⟨fun j=>if j = 6 then .slice am FL.length cm else Z,rfl,rz_start,ryb_start rfl⟩
        rotate_left
        ·rintro x hb V i op ⟨f,rfl,F,hA⟩ xo hx Y xu K
         have xA:=M F
         have qN:=M hA
         clear hA
         have xj:∀ (p:Addr) u,W8.cell? p = some u→V.cell? p = some u:=fun p u hu=>(F.bel.cell (yL W8 _ hu)).trans hu
         match i,Y with
         | 0,Y =>
          obtain rfl:=ya Y
          clear K F xo xj
          rw [if_pos (by rfl)];unfold Oper.wp;go_simp
          exact ⟨upd f 0 (.slice (some (yq V 0)) 0 0),by simp [upd],rz_0 (U xA) xu (fun _=>trivial),zZ _ (U qN) (by decide) (by decide)⟩
         | 1,Y =>
          obtain rfl:=ya Y
          have g6:f 6 = .slice am FL.length cm:=(U qN).2 (ch xo 12 1 6 (by kernel_rfl) hx (by simp) xu)
          clear K F xo xj
          rw [if_pos (by rfl)];unfold Oper.wp;go_simp
          exact ⟨upd f 1 (.slice am FL.length cm),by simp [upd,g6],rz_val (U xA) 1 _ rfl (by decide) (by decide) (by decide) (by decide),zZ _ (U qN) (by decide) (by decide)⟩
         | 2,Y =>
          obtain rfl:=ya Y
          have k0:x[0]? = some true:=K ⟨0,.data⟩ (by simp) rfl
          have g1:f 1 = .slice am FL.length cm:=F.c 1 (ye K 1 rfl)
          have n5:x[5]? = some false:=ch xo 12 2 5 (by kernel_rfl) hx (by simp) xu
          have vY:=M (F.m0 k0 xu)
          have vA:=F.bel
          have HRDV:Hid (∀ ad,am = some ad→∀ j u,(FL.flatMap Od.vs)[j]? = some u→V.cell? (ad.add j) = some u):=fun ad had=>by
           have h:=zV (zp (U HLW) vA) (by omega)
           rw [had] at h
           exact rd_src h
          have HSLV:=M (oRow_sl (U HLW))
          clear K F xo xj
          rw [if_pos (by rfl)]
          rcases U HSLV with h | ⟨ad,nn,cc,h⟩
          ·simp only [Value.slice.injEq] at h
           have hL:FL = []:=List.length_eq_zero_iff.1 h.2.1
           refine gY (.tmp 155) (.tmp 156) 25 rfl W8.heap.size 65 i0 6 Tryz.underlying25 uJ (f 0) 0 [] rfl (U vY) (by show f 1 = _; rw [g1,h.1,h.2.1,h.2.2]) ?_
           exact ⟨upd f 2 (f 0),rfl,rz_2 (U xA) k0 xu n5 (fun _=>trivial) (by rw [hL]; exact U vY) (yS _ _),zZ _ (U qN) (by decide) (by decide)⟩
          ·simp only [Value.slice.injEq] at h
           refine wp_append_own V (.tmp 155) (.tmp 156) 25 rfl W8.heap.size 65 i0 _ 6 56 Tryz.underlying25 uJ uD uz uM rfl (by decide) (f 0) 0 [] rfl (U vY) ad FL.length cm (FL.flatMap Od.vs) (by show f 1 = _; rw [g1,h.1]) (by rw [zL Od.len]) (U HRDV ad h.1) (dj FL) (by unfold maxLen; omega) (by omega) vA.size ?_
           intro v' w' xS uZ _
           refine ⟨upd f 2 v',rfl,rz_2 (U xA) k0 xu n5 (fun _=>trivial) ?_ uZ,zZ _ (U qN) (by decide) (by decide)⟩
           show w'.ownsRow _ _ _ _ FL.length _
           simpa using xS
         | 3,Y =>
          obtain rfl:=ya Y
          have t0:=xj (J tb 0) _ (U kO 0 _ rfl)
          have t1:=xj (J tb 1) _ (U kO 1 _ rfl)
          have t2:=xj (J tb 2) _ (U kO 2 _ rfl)
          have t3:=xj (J tb 3) _ (U kO 3 _ rfl)
          have t4:=xj (J tb 4) _ (U kO 4 _ rfl)
          have t5:=xj (J tb 5) _ (U kO 5 _ rfl)
          clear K F xo xj
          rw [if_pos (by rfl)];unfold Oper.wp;go_simp
          exact ⟨upd f 3 (.agg (yw next s tt Fl li tg).toArray),by simp [upd],rz_val (U xA) 3 _ rfl (by decide) (by decide) (by decide) (by decide),zZ _ (U qN) (by decide) (by decide)⟩
         | 4,Y =>
          obtain rfl:=ya Y
          have g3:f 3 = .agg (yw next s tt Fl li tg).toArray:=F.c 3 (ye K 3 rfl)
          have n5:x[5]? = some false:=ch xo 12 4 5 (by kernel_rfl) hx (by simp) xu
          clear K F xo xj
          rw [if_pos (by rfl)];unfold Oper.wp;go_simp
          exact ⟨upd f 4 (.slice (some (yq V 0)) 1 1),by simp [upd,g3],rz_4 (U xA) xu n5 (fun _=>trivial),zZ _ (U qN) (by decide) (by decide)⟩
         | 5,Y =>
          obtain rfl:=ya Y
          have k2:x[2]? = some true:=K ⟨2,.data⟩ (by simp) rfl
          obtain ⟨b4,g4,ub,xP,xQ,-⟩:=F.m4 (ye K 4 rfl) xu
          have qy:=M (F.m2 k2 xu)
          have vA:=F.bel
          have h6:x[6]? = some false:=ch xo 12 5 6 (by kernel_rfl) hx (by simp) xu
          have vf:Hid (∀ j u,(Od.vs ⟨next,s,tt,Fl,li,tg⟩)[j]? = some u→V.cell? (((J b4 0):Addr).add j) = some u):=fun j u hu=>by
           have:=xQ j u hu
           rw [Addr.add_mid]; exact this
          clear K F xo xQ xj
          rw [if_pos (by rfl)]
          refine wp_append_own V (.tmp 157) (.tmp 159) 25 rfl W8.heap.size 65 i0 _ 6 56 Tryz.underlying25 uJ uD uz uM rfl (by decide) (f 2) FL.length (FL.flatMap Od.vs) rfl (U qy) (J b4 0) 1 1 (Od.vs ⟨next,s,tt,Fl,li,tg⟩) (by show f 4 = _; exact g4) rfl (U vf) (one_od ⟨next,s,tt,Fl,li,tg⟩) (by unfold maxLen; omega) (by omega) vA.size ?_
          intro v' w' xS uZ _
          refine ⟨upd f 5 v',rfl,rz_5 (U xA) k2 xu (fun _=>trivial) ?_ uZ,ryb_write v' (U qN) h6⟩
          show w'.ownsRow _ _ _ _ (FL ++ [(⟨next,s,tt,Fl,li,tg⟩:Od)]).length _
          rw [yQ,List.flatMap_append]
          simpa using xS
         | 6,Y =>
          obtain rfl:=ya Y
          have k5:x[5]? = some true:=K ⟨5,.data⟩ (by simp) rfl
          clear K F xo xj
          rw [if_pos (by rfl)];unfold Oper.wp;go_simp
          exact ⟨upd f 6 (f 5),by simp [upd],rz_val (U xA) 6 _ trivial (by decide) (by decide) (by decide) (by decide),ryb_lay xu⟩
         | n + 7,Y=>simp at Y
        ·rintro x hb V ⟨f,rfl,F,hA⟩ hx xN
         have xp:=zY xN hx (by kernel_rfl)
         have e6:f 6 = f 5:=hA.1 (xp 6 (by simp))
         have hO5:=F.m5 (xp 5 (by simp))
         have vA:=F.bel
         obtain ⟨aL,cL,hvL⟩:=cT hO5
         rw [hvL] at hO5 e6
         generalize (FL ++ [(⟨next,s,tt,Fl,li,tg⟩:Od)]).length = nL at hO5 e6
         simp only [e6]
         have HLW:=M (zR hO5 (show h3.heap.size ≤ W8.heap.size from (U HBW8).size))
         have HEW:=M (zN (U HEW8) vA)
         have oV:=M (ia (U HBW8) vA)
         have uB:=M (zc (U HXR8) vA heb8)
         have H3W:Hid (w3.heap.size ≤ V.heap.size):=yO (U H3W8) vA.size
         clear F hA xp xN hx hO5 vA e6 hvL
         generalize f 0 = tn0,f 1 = tn1,f 2 = tn2,f 3 = tn3,f 4 = tn4,f 5 = tn5
         obtain ⟨x0,x1,x2,x3,x4,x5,x6,x7,x8,x9,x10,x11,x12,x13⟩:=yG (U uB)
         have HEA:=M ((U HEW).alloc (O (yv 4 0 0 0 0 0 0 0 ⟨#[]⟩ next 0 Fl 0 0).toArray 37))
         have vG:Hid (yn V (V.alloc (O (yv 4 0 0 0 0 0 0 0 ⟨#[]⟩ next 0 Fl 0 0).toArray 37))):=gZ _ _
         have h3W:w3.heap.size ≤ V.heap.size:=U H3W
         go_wp2_with (at_builtin; go_must (refine wpList_append_own _ rfl _ _ 28 rfl w3.heap.size 37 j0 _ 14 120 Tryz.underlying28 jM bh hy1 hy2 rfl (by decide) v14 evs.length (evs.flatMap Ev.vs) rfl (U HEA) (yq V 0) 1 1 (Ev.vs ⟨4,zCm,next,0,Fl,0,0⟩) rfl rfl (cellsQ V (Ev.vs ⟨4,zCm,next,0,Fl,0,0⟩) 37) (one_ev ⟨4,zCm,next,0,Fl,0,0⟩) (by unfold maxLen; omega) (by omega) (yO h3W (U vG).size) ?_); intro v5 w9 qB qw _; have ay:=M qB; have HG9:=M qw; clear qB qw)
         have HE9:Hid (ERow w9 w3.heap.size v5 (evs ++ [⟨4,zCm,next,0,Fl,0,0⟩])):=by
          show w9.ownsRow _ _ _ _ (evs ++ [(⟨4,zCm,next,0,Fl,0,0⟩:Ev)]).length _
          rw [yQ,List.flatMap_append]
          simpa using U ay
         have HL9:=M (World.ownsRow.kept (zp (U HLW) (U vG)) (U HG9) (dY (zp (U HLW) (U vG)) (U HEA) (by decide)))
         have qI:Hid (yn h3 w9):=by
          have Q:=(U oV).trans ((U vG).mono (U oV).size)
          exact Q.grown (U HG9) Q.size (fun g hg=>yO jV ((U HEA).lt g hg).1)
         clear ay HG9 HEA vG
         go_wp2_with fail
         refine U ku _ _ ?_
         clear ku
         obtain ⟨z0,z1,y0,y1,y2,y3,y4,y5,y6,y7⟩:=U xL w9 (U qI)
         have qz:=zk (U HB).2.2.2.2.1 (U qI) vL
         obtain ⟨p0,x0,f0⟩:=zg qz (j:=0) (by omega)
         obtain ⟨p1,x1,f1⟩:=zg qz (j:=1) (by omega)
         have aN:=(U HB).2.2.2.2.2.trans ((U qI).mono (U HB).2.2.2.2.2.size)
         have HWF:Hid (yn w ((w9.setCell (J (w.heap.size + 1 + 1) 0) (H (next + 1))).setCell (J (w.heap.size + 1 + 1) 1) (.slice aL nL cL))):=(aN.setCell (p:=(J (w.heap.size + 1 + 1) 0)) (show w.heap.size ≤ w.heap.size + 1 + 1 by omega) _).setCell (p:=(J (w.heap.size + 1 + 1) 1)) (show w.heap.size ≤ w.heap.size + 1 + 1 by omega) _
         have HEF:Hid (ERow ((w9.setCell (J (w.heap.size + 1 + 1) 0) (H (next + 1))).setCell (J (w.heap.size + 1 + 1) 1) (.slice aL nL cL)) w.heap.size v5 (evs ++ [⟨4,zCm,next,0,Fl,0,0⟩])):=zR (ed (ed (U HE9) hS3 0 _) hS3 1 _) (by omega)
         have HLF:Hid (ORow ((w9.setCell (J (w.heap.size + 1 + 1) 0) (H (next + 1))).setCell (J (w.heap.size + 1 + 1) 1) (.slice aL nL cL)) w.heap.size (.slice aL nL cL) (FL ++ [⟨next,s,tt,Fl,li,tg⟩])):=zR (dw (dw (U HL9) vL 0 _) vL 1 _) hXw
         have kI:Hid (((w9.setCell (J (w.heap.size + 1 + 1) 0) (H (next + 1))).setCell (J (w.heap.size + 1 + 1) 1) (.slice aL nL cL)).cell? (J (w.heap.size + 1 + 1) 0) = some (H (next + 1))):=(yM _ _ _ _ (bZ (by decide))).trans (yN _ _ _ x0)
         have qJ:Hid (((w9.setCell (J (w.heap.size + 1 + 1) 0) (H (next + 1))).setCell (J (w.heap.size + 1 + 1) 1) (.slice aL nL cL)).cell? (J (w.heap.size + 1 + 1) 1) = some (.slice aL nL cL)):=yN _ _ _ ((yM _ _ _ _ (bZ (by decide))).trans x1)
         clear qz aN y0 y1 y2 y3 y4 y5 y6 y7
         go_wp2_with fail
         have d0:=U kI
         have d1:=U qJ
         try simp only [Exit.inBlock,Exit.then]
         refine bodyPost_ret (by simp [results,Tryz.results16,go_sem,d0,d1]; try rfl) rfl ?_
         obtain ⟨rfl,kV,kp⟩:=U vH
         rw [if_pos ⟨bE,jP⟩] at kV
         rw [if_pos bE,if_pos jP,U HEVS] at kp
         subst kV kp
         exact ⟨_,_,rfl,U HLF,U HEF,U HWF⟩
      ·go_wp2_with fail
       refine U ku _ _ ?_
       clear ku
       obtain ⟨z0,z1,y0,y1,y2,y3,y4,y5,y6,y7⟩:=U xL W (U xw)
       have qz:=zk (U HB).2.2.2.2.1 (U xw) vL
       obtain ⟨p0,x0,f0⟩:=zg qz (j:=0) (by omega)
       obtain ⟨p1,x1,f1⟩:=zg qz (j:=1) (by omega)
       have aN:=(U HB).2.2.2.2.2.trans ((U xw).mono (U HB).2.2.2.2.2.size)
       have HWF:Hid (yn w ((W.setCell (J (w.heap.size + 1 + 1) 0) (H (next + 1))).setCell (J (w.heap.size + 1 + 1) 1) (.slice am FL.length cm))):=(aN.setCell (p:=(J (w.heap.size + 1 + 1) 0)) (show w.heap.size ≤ w.heap.size + 1 + 1 by omega) _).setCell (p:=(J (w.heap.size + 1 + 1) 1)) (show w.heap.size ≤ w.heap.size + 1 + 1 by omega) _
       have HEF:Hid (ERow ((W.setCell (J (w.heap.size + 1 + 1) 0) (H (next + 1))).setCell (J (w.heap.size + 1 + 1) 1) (.slice am FL.length cm)) w.heap.size v14 (evs)):=zR (ed (ed (U jo) hS3 0 _) hS3 1 _) (by omega)
       have HLF:Hid (ORow ((W.setCell (J (w.heap.size + 1 + 1) 0) (H (next + 1))).setCell (J (w.heap.size + 1 + 1) 1) (.slice am FL.length cm)) w.heap.size (.slice am FL.length cm) (FL)):=zR (dw (dw (U HLV) vL 0 _) vL 1 _) hXw
       have kI:Hid (((W.setCell (J (w.heap.size + 1 + 1) 0) (H (next + 1))).setCell (J (w.heap.size + 1 + 1) 1) (.slice am FL.length cm)).cell? (J (w.heap.size + 1 + 1) 0) = some (H (next + 1))):=(yM _ _ _ _ (bZ (by decide))).trans (yN _ _ _ x0)
       have qJ:Hid (((W.setCell (J (w.heap.size + 1 + 1) 0) (H (next + 1))).setCell (J (w.heap.size + 1 + 1) 1) (.slice am FL.length cm)).cell? (J (w.heap.size + 1 + 1) 1) = some (.slice am FL.length cm)):=yN _ _ _ ((yM _ _ _ _ (bZ (by decide))).trans x1)
       clear qz aN y0 y1 y2 y3 y4 y5 y6 y7
       go_wp2_with fail
       have d0:=U kI
       have d1:=U qJ
       try simp only [Exit.inBlock,Exit.then]
       refine bodyPost_ret (by simp [results,Tryz.results16,go_sem,d0,d1]; try rfl) rfl ?_
       obtain ⟨rfl,kV,kp⟩:=U vH
       rw [if_neg (fun h=>by have:=h.1; omega)] at kV
       rw [if_neg (by omega),List.append_nil,U HEVS] at kp
       subst kV kp
       exact ⟨_,_,rfl,U HLF,U HEF,U HWF⟩
     have HT2':=M vp
     clear vp hK
     have h3Y:w3.heap.size ≤ ho.heap.size:=by have:=(U HE6).lt be rfl; omega
     rcases (U jy).2 with ⟨hv,h0⟩ | ⟨gt,ct,cut,hv,_⟩
     ·simp only [Value.slice.injEq] at hv
      obtain ⟨rfl,jk,rfl⟩:=hv
      obtain rfl:=List.length_eq_zero_iff.1 jk
      go_wp2_with (at_builtin; go_must (refine wpList_append_own_none rfl _ _ 28 rfl w3.heap.size 37 j0 14 Tryz.underlying28 jM (.slice (some (J be 0)) 1 1) 1 _ rfl (U HE6) rfl ?_))
      exact U HT2' _ _ (U HE6) (U HO6) (U uY) (U vV) hlt6 h3Y
     ·simp only [Value.slice.injEq] at hv
      obtain ⟨rfl,-,rfl⟩:=hv
      have vf:=M (row_src (U jy))
      go_wp2_with (at_builtin; go_must (refine wpList_append_own _ rfl _ _ 28 rfl w3.heap.size 37 j0 _ 14 120 Tryz.underlying28 jM bh hy1 hy2 rfl (by decide) (.slice (some (J be 0)) 1 1) 1 _ rfl (U HE6) (J gt 0) Ft.length ce (Ft.flatMap Ev.vs) rfl (by rw [zL Ev.len]) (U vf) (one_allE Ft) (by unfold maxLen; omega) (by omega) h3Y ?_); intro v14 w7 hown7 hg7 _; have HO7:=M hown7; have qP:=M hg7; clear hown7 hg7)
      have HE7:Hid (ERow w7 w3.heap.size v14 (⟨1,⟨1,s,ty,li,qt,ii,pr,cutB tg⟩,next,0,0,0,0⟩ :: Ft)):=by
       show w7.ownsRow _ _ _ _ (⟨1,⟨1,s,ty,li,qt,ii,pr,cutB tg⟩,next,0,0,0,0⟩ :: Ft:List Ev).length _
       have h:=U HO7
       rw [List.length_cons,Nat.add_comm]
       simpa using h
      exact U HT2' _ _ (U HE7) (World.ownsRow.kept (U HO6) (U qP) (dY (U HO6) (U HE6) (by decide))) (fun j u hj=>(yR (a:=(J tb (0 + j))) ((U qP).block tb hlt6 (df (U HE6) (U HTX) (by decide)))).trans (U uY j u hj)) ((U vV).grown (U qP) (U vV).size (fun g hg=>yO jV ((U HE6).lt g hg).1)) (yK hlt6 (U qP).size) (yO h3Y (U qP).size)
   ·exact absurd (U uy).2 (by decide)
   ·exact absurd (U uy).2 (by decide)
   ·exact absurd (U uy).2 (by decide)
  ·have oJ:=vE
   have jP:(rr == 0) = false:=by rw [xe]; exact vE
   have vH:Hid (sN = next∧sL = l∧sE = [⟨2,⟨kk,s,ty,li,qt,ii,pr,cutB tg⟩,0,0,0,0,rr⟩]):=⟨by rw [U vW,if_neg (fun h=>vE h.1)],by rw [U uA,if_neg vE],by rw [U vO,if_neg vE]⟩
   skip
   exact absurd (U uy).1 oJ
 rcases U qn with hs | ⟨ad,nn,cc,hs⟩
 ·simp only [Value.slice.injEq] at hs
  obtain ⟨rfl,jk,rfl⟩:=hs
  obtain rfl:=List.length_eq_zero_iff.1 jk
  obtain ⟨z0,z1,y0,y1,y2,y3,y4,y5,y6,y7⟩:=U xL h3 (Below.refl _ _)
  have vY:=M (World.ownsRow_made (base:=h3.heap.size) (e:=65) (size:=6) h3 #[] 0 hU (by decide) rfl)
  have hzX:World.cell? (h3.alloc (O #[] 65)) (yq w 1) = some (.slice none 0 0):=(U xL _ (gZ _ _)).2.1
  have ow:=M HT
  clear HT hK
  go_wp2_with (at_builtin; go_must (refine wpList_append_own_none rfl _ _ 25 rfl h3.heap.size 65 i0 6 Tryz.underlying25 uJ (.slice (some (yq h3 0)) 0 0) 0 [] rfl (U vY) rfl ?_))
  exact U ow _ _ _ (U vY) (gZ _ _)
 ·simp only [Value.slice.injEq] at hs
  obtain ⟨rfl,rfl,rfl⟩:=hs
  obtain ⟨z0,z1,y0,y1,y2,y3,y4,y5,y6,y7⟩:=U xL h3 (Below.refl _ _)
  have uK:Hid (yn h3 (h3.alloc (O #[] 65))):=gZ _ _
  have vY:=M (World.ownsRow_made (base:=h3.heap.size) (e:=65) (size:=6) h3 #[] 0 hU (by decide) rfl)
  have hzX:World.cell? (h3.alloc (O #[] 65)) (yq w 1) = some (.slice (some ad) l.length cap):=(U xL _ (U uK)).2.1
  have vf:Hid (∀ j u,(l.flatMap Od.vs)[j]? = some u→World.cell? (h3.alloc (O #[] 65)) (ad.add j) = some u):=rd_src (zh (U HR) ((U HB).2.2.2.2.2.trans ((U uK).mono (U HB).2.2.2.2.2.size)) hU)
  have ow:=M HT
  clear HT hK
  go_wp2_with (at_builtin; go_must (refine wpList_append_own _ rfl _ _ 25 rfl h3.heap.size 65 i0 _ 6 56 Tryz.underlying25 uJ uD uz uM rfl (by decide) (.slice (some (yq h3 0)) 0 0) 0 [] rfl (U vY) ad l.length cap (l.flatMap Od.vs) rfl (by rw [zL Od.len]) (U vf) (dj l) (by unfold maxLen; omega) (by omega) (U uK).size ?_); intro v1 w1 uW je _; have vv:=M uW; have oN:=M je; clear uW je)
  have bz:Hid (ORow w1 h3.heap.size v1 l):=by
   show w1.ownsRow _ _ _ _ l.length _
   simpa using U vv
  obtain ⟨a6,c6,hv⟩:=cT (U bz)
  subst hv
  exact U ow _ _ _ (U bz) ((U uK).grown (U oN) (U uK).size (fun k E=>((U vY).lt k E).1))
theorem l04Step_any (next:Int) (vb:Value) (l:List Od) (c:Cm) (w:World) (hr:RdR Od.vs 6 w vb l) (hs:SlOk vb) (hg:GoodL l) (ui:∀ x ∈ l,x.side = 1 ∨ x.side = 2) (h0:0 ≤ next) (Q:next ≤ 1000000) (ht:c.g.size ≤ maxLen) :
  Calls Tryz.prog 16 #[.agg #[H next,vb],cmV c] w fun e w'=>∃ vq vg,e = ym (.tuple #[.agg #[H (stN next l c),vq],vg])∧ORow w' w.heap.size vq (stL next l c)∧ERow w' w.heap.size vg (stE next l c)∧yn w w':=by
 by_cases vE:refR next l c = 0
 ·rcases fK vE with E | E | E | E
  ·exact l04Step_a next vb l c w ⟨vE,E⟩ hr hs hg ui h0 Q ht
  ·exact l04Step_c next vb l c w ⟨vE,E⟩ hr hs hg ui h0 Q ht
  ·exact l04Step_d next vb l c w ⟨vE,E⟩ hr hs hg ui h0 Q ht
  ·exact l04Step_y next vb l c w ⟨vE,E⟩ hr hs hg ui h0 Q ht
 ·exact l04Step_r next vb l c w vE hr hs hg ui h0 Q ht
end Go.Proofs.YthhkapcbocgcoaaGreatDoor
