/-
  A command done on a book, by the model: proved by walking the function.
-/
import Derived.Test.YtbakanofkghmiaaGreatUj41
set_option linter.unusedVariables false
set_option maxHeartbeats 6400000
set_option maxRecDepth 100000
namespace Go.Proofs.YtbakanofkghmiaaGreat
open Go.RowKit
theorem l04Step_a (next:Int) (vb:Value) (l:List Od) (c:Cm) (w:World) (qX:refR next l c = 0∧c.k = 1) (hr:RdR Od.vs 6 w vb l) (hs:SlOk vb) (hg:GoodL l) (uC:∀ x ∈ l,x.side = 1 ∨ x.side = 2) (h0:0 ≤ next) (G:next ≤ 1000000) (ht:c.g.size ≤ maxLen) :
  Calls Tryz.prog 44 #[.agg #[H next,vb],cmV c] w fun e w'=>∃ vq vg,e = yl (.tuple #[.agg #[H (stN next l c),vq],vg])∧ORow w' w.heap.size vq (stL next l c)∧ERow w' w.heap.size vg (stE next l c)∧ym w w':=by
 obtain ⟨i0,uE,uF,uK,uV⟩:=info_parts Tryz.infoOrder
 obtain ⟨j0,jz,jI,kX,hy2⟩:=info_parts infoEv
 have HR:=Y hr
 have vC:=Y hs
 have HG:=Y hg
 have qw:=Y ht
 have vR:=hg.len
 have uG:Hid (0 ≤ next∧next ≤ 1000000):=⟨h0,G⟩
 have uQ:=Y (fun (W:World) hW=>dw next vb l c W hW hs hg uC ht)
 rw [ref_eq] at uQ
 have HK:=Y (@cY next l c)
 have HQ:=Y (@cJ next l c)
 have qJ:=Y (@ref_id next l c)
 have jD:=Y (@ref_newS next l c)
 have uA:=Y qX
 clear qX
 have uX:Hid (stN next l c = if refR next l c = 0∧c.k = 1 then next + 1 else next):=rfl
 have uD:=Y (stL.eq_1 next l c)
 have uW:=Y (stE.eq_1 next l c)
 have ou:=Y (fun W=>dv c W ht)
 have qO:=Y (fun (a:Option Addr) (n A:Nat) (W:World)=>di next a n A c W)
 have kb:=Y (fun (v:Value) (W:World) hr hs hp jq qU=>dh v l c next W hr hg hs hp jq qU)
 obtain ⟨a,A,rfl,vF,hc⟩:=hr
 obtain ⟨kk,s,ty,li,F,ii,pr,L⟩:=c
 generalize stN next l ⟨kk,s,ty,li,F,ii,pr,L⟩ = sN at uX ⊢
 generalize stL next l ⟨kk,s,ty,li,F,ii,pr,L⟩ = sL at uD ⊢
 generalize stE next l ⟨kk,s,ty,li,F,ii,pr,L⟩ = sE at uW ⊢
 generalize refR next l ⟨kk,s,ty,li,F,ii,pr,L⟩ = rr at uQ uX uD uW HK HQ qJ jD uA
 unfold cmV at uQ qO ⊢
 simp only at uQ uX uD uW HK HQ qJ jD ou qO kb qw uA ⊢
 have HB:=Y (box3 w [H next,.slice a l.length A] (yv kk s ty li F ii pr L) [H 0,.slice none 0 0] 28 43 28)
 clear hs hg uC h0 G ht hc vF
 go_enter Tryz.func44,Tryz.ntmps44
 refine eF fun hj xq=>?_
 go_wp2_with fail
 refine U xq _ _ ?_
 clear xq
 change Hid ((((w.alloc (N #[H next,.slice a l.length A] 28)).alloc (N (yv kk s ty li F ii pr L).toArray 43)).alloc (N #[H 0,.slice none 0 0] 28)).heap.size = w.heap.size + 3∧World.rangeAt (((w.alloc (N #[H next,.slice a l.length A] 28)).alloc (N (yv kk s ty li F ii pr L).toArray 43)).alloc (N #[H 0,.slice none 0 0] 28)) w.heap.size 0 [H next,.slice a l.length A]∧World.rangeAt (((w.alloc (N #[H next,.slice a l.length A] 28)).alloc (N (yv kk s ty li F ii pr L).toArray 43)).alloc (N #[H 0,.slice none 0 0] 28)) (w.heap.size + 1) 0 (yv kk s ty li F ii pr L)∧World.rangeAt (((w.alloc (N #[H next,.slice a l.length A] 28)).alloc (N (yv kk s ty li F ii pr L).toArray 43)).alloc (N #[H 0,.slice none 0 0] 28)) (w.heap.size + 1 + 1) 0 [H 0,.slice none 0 0]∧World.there (((w.alloc (N #[H next,.slice a l.length A] 28)).alloc (N (yv kk s ty li F ii pr L).toArray 43)).alloc (N #[H 0,.slice none 0 0] 28)) (w.heap.size + 1 + 1) 0 2∧ym w (((w.alloc (N #[H next,.slice a l.length A] 28)).alloc (N (yv kk s ty li F ii pr L).toArray 43)).alloc (N #[H 0,.slice none 0 0] 28))) at HB
 generalize (((w.alloc (N #[H next,.slice a l.length A] 28)).alloc (N (yv kk s ty li F ii pr L).toArray 43)).alloc (N #[H 0,.slice none 0 0] 28)) = xm at HB ⊢
 have xG:Hid (∀ W:World,ym xm W→W.cell? (yp w 0) = some (H next)∧W.cell? (yp w 1) = some (.slice a l.length A)∧W.cell? (J (w.heap.size + 1) 0) = some (H kk)∧W.cell? (J (w.heap.size + 1) 1) = some (H s)∧W.cell? (J (w.heap.size + 1) 2) = some (H ty)∧W.cell? (J (w.heap.size + 1) 3) = some (H li)∧W.cell? (J (w.heap.size + 1) 4) = some (H F)∧W.cell? (J (w.heap.size + 1) 5) = some (H ii)∧W.cell? (J (w.heap.size + 1) 6) = some (yi pr)∧W.cell? (J (w.heap.size + 1) 7) = some (yj L)):=fun W hW =>
  have p:=zb (U HB).2.1 hW (by have:=(U HB).1; omega)
  have q:=zb (U HB).2.2.1 hW (by have:=(U HB).1; omega)
  ⟨p 0 _ rfl,p 1 _ rfl,q 0 _ rfl,q 1 _ rfl,q 2 _ rfl,q 3 _ rfl,q 4 _ rfl,q 5 _ rfl,q 6 _ rfl,q 7 _ rfl⟩
 have vz:w.heap.size + 1 + 1 < xm.heap.size:=by have:=(U HB).1; omega
 refine wp_seq_k fun hj hK=>?_
 have HT:∀ (a6:Option Addr) (c6:Nat) (w1:World),ORow w1 xm.heap.size (.slice a6 l.length c6) l→ym xm w1→hj { tmps:=#[.agg #[H next,.slice a l.length A],.agg (yv kk s ty li F ii pr L).toArray,yn w 0,I (w.heap.size + 1) 0,I (w.heap.size + 1 + 1) 0,.slice none 0 0,.slice a6 l.length c6,M,M,M,M,M,M,M,M,M,M,M,.slice (some (yp xm 0)) 0 0,yn w 1,.slice a l.length A,.slice a6 l.length c6,M,M,M,M,M,M,M,M,M,M,M,M,M,M,M,M,M,M,M,M,M,M,M,M,M,M,M,M,M,M,M,M,M,M,M,M,M,M,M,M,M,M,M,M,M,M,M,M,M,M,M,M,M,M,M,M,M,M,M,M,M,M,M,M,M,M,M,M,M,M,M,M,M,M,M,M,M,M,M,M,M,M,M,M,M,M,M,M,M,M,M,M,M,M,M,M,M,M,M,M,M,M,M,M,M,M,M,M,M,M,M,M,M,M,M,M,M,M,M,M,M,M,M,M,M,M,M,M,M,M,M,M,M,M,M,M,M,M,M,M,M,M,M,M,M,M,M,M,M],defers:=[] } w1:=by
  intro a6 c6 w1 vZ xU
  refine hK _ _ ?_
  clear hK
  have vl:=Y vZ
  have xW:=Y xU
  clear vZ xU
  obtain ⟨z0,z1,y0,y1,y2,y3,y4,y5,y6,y7⟩:=U xG w1 (U xW)
  refine eF fun hj xq=>?_
  go_wp2_with fail
  refine (U uQ w1 (zh (U HR) ((U HB).2.2.2.2.2.trans ((U xW).mono (U HB).2.2.2.2.2.size)) hb)).mono ?_
  rintro e w2 ⟨rfl,xS⟩
  have vV:=Y (zj (U vl) xS)
  have xD:=Y (eE (U xW) xS)
  clear z0 z1 y0 y1 y2 y3 y4 y5 y6 y7 xS vl
  obtain ⟨z0,z1,y0,y1,y2,y3,y4,y5,y6,y7⟩:=U xG w2 (U xD)
  have vN:=Y (ze (U HB).2.2.2.2.1 (U xD) vz)
  have ox:w.heap.size + 1 + 1 < w2.heap.size:=yH vz (U xD).size
  have xJ:=Y ((U HB).2.2.2.2.2.trans ((U xD).mono (U HB).2.2.2.2.2.size))
  have hXw:w.heap.size ≤ xm.heap.size:=by omega
  have hX2:xm.heap.size ≤ w2.heap.size:=(U xD).size
  have oi:=hX2
  by_cases vi:rr = 0
  ·subst vi
   have pD:=U HK rfl
   rcases pD with rfl | rfl | rfl | rfl
   ·have hq:=U HQ rfl rfl
    obtain ⟨hss,hpp,htt,hii⟩:=U jD rfl rfl
    have HMTT:=Y (fun (v:Value) (W:World) hr=>U kb v W hr hss hpp (by omega) hq.2)
    have kH:=Y (bR (c:=⟨1,s,ty,li,F,ii,pr,L⟩) (id:=next) 21 l F [] (U HG) (by omega) hq.2)
    have HMF:=Y (dr (c:=⟨1,s,ty,li,F,ii,pr,L⟩) (id:=next) 21 l F [])
    have uI:Hid (sN = next + 1∧sL = (if 0 < (matL ⟨1,s,ty,li,F,ii,pr,L⟩ next 21 l F []).2.1∧aC ty = true then (matL ⟨1,s,ty,li,F,ii,pr,L⟩ next 21 l F []).1 ++ [⟨next,s,tkS pr,(matL ⟨1,s,ty,li,F,ii,pr,L⟩ next 21 l F []).2.1,li,L⟩] else (matL ⟨1,s,ty,li,F,ii,pr,L⟩ next 21 l F []).1)∧sE = ⟨1,⟨1,s,ty,li,F,ii,pr,cutB L⟩,next,0,0,0,0⟩ :: (matL ⟨1,s,ty,li,F,ii,pr,L⟩ next 21 l F []).2.2 ++ (if 0 < (matL ⟨1,s,ty,li,F,ii,pr,L⟩ next 21 l F []).2.1 then [⟨if aC ty = true then 4 else 5,zCm,next,0,(matL ⟨1,s,ty,li,F,ii,pr,L⟩ next 21 l F []).2.1,0,0⟩] else [])):=⟨by rw [U uX,if_pos ⟨rfl,rfl⟩],by rw [U uD,if_pos rfl,if_pos rfl]; exact acc_l hpp,by rw [U uW,if_pos rfl,if_pos rfl,accE,cutB_tag htt,hii]⟩
    generalize matL ⟨1,s,ty,li,F,ii,pr,L⟩ next 21 l F [] = qt at uI HMTT kH HMF
    obtain ⟨FL,Fl,Ft⟩:=qt
    simp only at uI HMTT kH HMF
    generalize tkS pr = tt at uI HMTT qO
    have hFL:=(U kH).1.len
    have hFt:Ft.length ≤ 21:=by simpa using U HMF
    obtain ⟨hn0,hn1⟩:=U uG
    clear uX uD uW HQ qJ HK jD kb hpp htt hii hss kH HMF
    go_wp2_with fail
    refine U xq _ _ ?_
    clear xq
    refine eF fun hj xq=>?_
    go_wp2_with fail
    refine (dj _ l ii w2 (zR (U vV) (by omega))).mono ?_
    generalize plc l ii = pk
    rintro e w3 ⟨rfl,uw⟩
    have qL:=Y (zj (U vV) uw)
    have xP:=Y (eE (U xD) uw)
    clear uw z0 z1 y0 y1 y2 y3 y4 y5 y6 y7 vN xJ ox oi
    have vN:=Y (ze (U HB).2.2.2.2.1 (U xP) vz)
    have ox:w.heap.size + 1 + 1 < w3.heap.size:=yH vz (U xP).size
    have xJ:=Y ((U HB).2.2.2.2.2.trans ((U xP).mono (U HB).2.2.2.2.2.size))
    have oi:xm.heap.size ≤ w3.heap.size:=(U xP).size
    obtain ⟨z0,z1,y0,y1,y2,y3,y4,y5,y6,y7⟩:=U xG w3 (U xP)
    have HZ0:=Y z0
    have HZ1:=Y z1
    have HY0:=Y y0
    have HY1:=Y y1
    have HY2:=Y y2
    have HY3:=Y y3
    have HY4:=Y y4
    have HY5:=Y y5
    have HY6:=Y y6
    have pp:=Y y7
    go_wp2_with fail
    refine U xq _ _ ?_
    clear xq
    refine eF fun hj xq=>?_
    go_wp2_with fail
    refine U xq _ _ ?_
    clear xq
    refine eF fun hj xq=>?_
    clear z0 z1 y0 y1 y2 y3 y4 y5 y6 y7
    refine zi (RYBA (fun f=>{ tmps:=#[.agg #[H next,.slice a l.length A],.agg (yv 1 s ty li F ii pr L).toArray,yn w 0,I (w.heap.size + 1) 0,I (w.heap.size + 1 + 1) 0,.slice none 0 0,.slice a6 l.length c6,H 0,H pk,M,M,M,M,M,f 6,M,M,M,.slice (some (yp xm 0)) 0 0,yn w 1,.slice a l.length A,.slice a6 l.length c6,.agg #[H next,.slice a l.length A],.agg (yv 1 s ty li F ii pr L).toArray,H 0,H 0,.bool false,M,M,M,M,M,M,M,M,M,.slice a6 l.length c6,I (w.heap.size + 1) 5,H ii,H pk,I (w.heap.size + 1) 0,H 1,.bool false,.bool false,M,M,M,M,M,M,M,M,M,M,M,M,M,M,M,M,.bool false,.bool false,M,M,M,M,M,M,M,M,M,M,M,M,M,M,M,M,.bool false,.bool false,M,M,M,M,M,M,M,M,M,M,M,M,M,M,M,M,M,M,M,M,M,M,M,M,M,M,M,M,M,M,M,M,M,M,M,M,M,M,M,M,M,M,M,M,M,f 0,f 1,f 2,f 3,f 4,f 5,M,M,M,M,M,M,M,M,M,M,M,M,M,M,M,M,M,M,M,M,M,M,M,M,M,M,M,M,M,M,M,M,M,M,M,M,M,M,M,M],defers:=[] }) (CX [.agg (yv 1 s ty li F ii pr L).toArray,.agg (yv 1 s ty li F ii pr (cutB L)).toArray,yn w 0,H next,.agg (yt 1 1 s ty li F ii pr (cutB L) next 0 0 0 0).toArray,M,M] [] (w3.heap.size) 0 [] ([])) 5 (M) (fun f W=>∃ be,f 5 = .slice (some (J be 0)) 1 1∧ERow W w3.heap.size (.slice (some (J be 0)) 1 1) [⟨1,⟨1,s,ty,li,F,ii,pr,cutB L⟩,next,0,0,0,0⟩]∧ym xm W∧ORow W xm.heap.size (.slice a6 l.length c6) l) w3) (by kernel_rfl) ?_ ?_ ?_
    ·exact ⟨fun _=>M,rfl,ry_start (by decide),ryb_start rfl⟩
    rotate_left
    ·rintro x xj V i op ⟨f,rfl,E,hA⟩ X hx Z xu Q
     have xw:=Y E
     have qC:=Y hA
     clear hA
     have xk:x[5]? = some false→∀ (p:Addr) u,w3.cell? p = some u→V.cell? p = some u:=fun hn p u hu=>((E.b hn).cell (yI w3 _ hu)).trans hu
     match i,Z with
     | 0,Z =>
      obtain rfl:=ya Z
      have hn:x[5]? = some false:=zy X 12 0 5 (by kernel_rfl) hx (by simp) xu
      have y0:=xk hn (J (w.heap.size + 1) 0) _ (U HY0)
      have y1:=xk hn (J (w.heap.size + 1) 1) _ (U HY1)
      have y2:=xk hn (J (w.heap.size + 1) 2) _ (U HY2)
      have y3:=xk hn (J (w.heap.size + 1) 3) _ (U HY3)
      have y4:=xk hn (J (w.heap.size + 1) 4) _ (U HY4)
      have y5:=xk hn (J (w.heap.size + 1) 5) _ (U HY5)
      have y6:=xk hn (J (w.heap.size + 1) 6) _ (U HY6)
      have y7:=xk hn (J (w.heap.size + 1) 7) _ (U pp)
      clear Q E X xk
      rw [if_pos (by rfl)];unfold Oper.wp;go_simp
      exact ⟨upd f 0 (.agg (yv 1 s ty li F ii pr L).toArray),by simp [upd],zZ (U xw) 0 _ hn (by decide) (zY rfl rfl),aJ _ (U qC) (by decide) (by decide)⟩
     | 1,Z =>
      obtain rfl:=ya Z
      have hn:x[5]? = some false:=zy X 12 1 5 (by kernel_rfl) hx (by simp) xu
      have g0:f 0 = .agg (yv 1 s ty li F ii pr L).toArray:=zU (E.c hn 0 (yd Q 0 rfl)) rfl rfl
      clear Q E X xk
      rw [if_pos (by rfl)];unfold Oper.wp;go_simp
      refine (U ou V).mono ?_
      rintro e w4 ⟨rfl,xy⟩
      exact ⟨upd f 1 (.agg (yv 1 s ty li F ii pr (cutB L)).toArray),by simp [upd,g0],zZ (ry_grow (cx_monoB (by omega)) (U xw) hn xy) 1 _ hn (by decide) (zY rfl rfl),aJ _ (U qC) (by decide) (by decide)⟩
     | 2,Z =>
      obtain rfl:=ya Z
      have hn:x[5]? = some false:=zy X 12 2 5 (by kernel_rfl) hx (by simp) xu
      clear Q E X xk
      rw [if_pos (by rfl)];unfold Oper.wp;go_simp
      exact ⟨upd f 2 (yn w 0),by simp [upd],zZ (U xw) 2 _ hn (by decide) (zY rfl rfl),aJ _ (U qC) (by decide) (by decide)⟩
     | 3,Z =>
      obtain rfl:=ya Z
      have hn:x[5]? = some false:=zy X 12 3 5 (by kernel_rfl) hx (by simp) xu
      have g2:f 2 = yn w 0:=zU (E.c hn 2 (yd Q 2 rfl)) rfl rfl
      have z0:=xk hn (yp w 0) _ (U HZ0)
      clear Q E X xk
      rw [if_pos (by rfl)];unfold Oper.wp;go_simp
      exact ⟨upd f 3 (H next),by simp [upd,g2],zZ (U xw) 3 _ hn (by decide) (zY rfl rfl),aJ _ (U qC) (by decide) (by decide)⟩
     | 4,Z =>
      obtain rfl:=ya Z
      have hn:x[5]? = some false:=zy X 12 4 5 (by kernel_rfl) hx (by simp) xu
      have g1:f 1 = .agg (yv 1 s ty li F ii pr (cutB L)).toArray:=zU (E.c hn 1 (yd Q 1 rfl)) rfl rfl
      have g3:f 3 = H next:=zU (E.c hn 3 (yd Q 3 rfl)) rfl rfl
      clear Q E X xk
      rw [if_pos (by rfl)];unfold Oper.wp;go_simp
      exact ⟨upd f 4 (.agg (yt 1 1 s ty li F ii pr (cutB L) next 0 0 0 0).toArray),by simp [upd,g1,g3],zZ (U xw) 4 _ hn (by decide) (zY rfl rfl),aJ _ (U qC) (by decide) (by decide)⟩
     | 5,Z =>
      obtain rfl:=ya Z
      have hn:x[5]? = some false:=xu
      have g4:f 4 = .agg (yt 1 1 s ty li F ii pr (cutB L) next 0 0 0 0).toArray:=zU (E.c hn 4 (yd Q 4 rfl)) rfl rfl
      have jk:x[6]? = some false:=zy X 12 5 6 (by kernel_rfl) hx (by simp) xu
      have xV:=E.b hn
      have hbA:=eB V (N (yt 1 1 s ty li F ii pr (cutB L) next 0 0 0 0).toArray 46)
      have HQQ:Hid (ERow (V.alloc (N (yt 1 1 s ty li F ii pr (cutB L) next 0 0 0 0).toArray 46)) w3.heap.size (.slice (some (yp V 0)) 1 1) [⟨1,⟨1,s,ty,li,F,ii,pr,cutB L⟩,next,0,0,0,0⟩]∧ym xm (V.alloc (N (yt 1 1 s ty li F ii pr (cutB L) next 0 0 0 0).toArray 46))∧ORow (V.alloc (N (yt 1 1 s ty li F ii pr (cutB L) next 0 0 0 0).toArray 46)) xm.heap.size (.slice a6 l.length c6) l):=⟨eRow_one V ⟨1,⟨1,s,ty,li,F,ii,pr,cutB L⟩,next,0,0,0,0⟩ xV.size,(eE (U xP) xV).trans (hbA.mono (yL (U xP).size xV.size)),zj (zj (U qL) xV) hbA⟩
      clear Q E X xk hbA xV
      rw [if_pos (by rfl)];unfold Oper.wp;go_simp
      exact ⟨upd f 5 (.slice (some (yp V 0)) 1 1),by simp [upd,g4],ry_write (U xw) hn _ ⟨V.heap.size,zn _ _ _,U HQQ⟩,ryb_write _ (U qC) jk⟩
     | 6,Z =>
      obtain rfl:=ya Z
      have hn:x[5]? = some true:=Q ⟨5,.data⟩ (by simp) rfl
      clear Q E X xk
      rw [if_pos (by rfl)];unfold Oper.wp;go_simp
      exact ⟨upd f 6 (f 5),by simp [upd],ry_after (U xw) 6 _ hn (by decide) (fun h=>h),ryb_lay xu⟩
     | n + 7,Z=>simp at Z
    ·rintro x xj V ⟨f,rfl,E,hA⟩ hx xL
     have xn:=zO xL hx (by kernel_rfl)
     have e6:f 6 = f 5:=hA.1 (xn 6 (by simp))
     obtain ⟨be,e5,q1,q2,q3⟩:=E.m (xn 5 (by simp))
     rw [e5] at e6
     refine U xq _ _ ?_
     clear xq
     simp only [e5,e6]
     have HE4:=Y q1
     have xY:=Y q2
     have oe:=Y q3
     have h3V:w3.heap.size ≤ V.heap.size:=by have:=(U HE4).lt be rfl; omega
     clear E hA xn xL hx q1 q2 q3 e5 e6
     generalize f 0 = tm0,f 1 = tm1,f 2 = tm2,f 3 = tm3,f 4 = tm4
     refine eF fun hj xq=>?_
     obtain ⟨z0,z1,y0,y1,y2,y3,y4,y5,y6,y7⟩:=U xG V (U xY)
     go_wp2_with fail
     refine (U qO a l.length A V).mono ?_
     rintro e w5 ⟨rfl,vD⟩
     have vJ:=Y (zI (U HE4) vD)
     have jf:=Y (eE (U xY) vD)
     have kL:=Y (zj (U oe) vD)
     clear vD z0 z1 y0 y1 y2 y3 y4 y5 y6 y7
     go_wp2_with fail
     refine (U HMTT _ w5 (zR (U kL) (by omega))).mono ?_
     rintro e w6 ⟨v6',ve,rfl,hl6,he6,jl⟩
     have hOm:ORow w6 xm.heap.size v6' FL:=by
      rcases hl6 with ⟨G,D⟩ | h
      ·rw [G,show FL = l from D]; exact zj (U kL) jl
      ·exact zE h (U jf).size
     clear hl6
     obtain ⟨am,cm,rfl⟩:=zL hOm
     obtain ⟨ae,ce,rfl⟩:=zL he6
     have vn:=eB w6 (N (yu next s tt Fl li L).toArray 49)
     have qe:=Y (zI (zI (U vJ) jl) vn)
     have jh:=Y (zI he6 vn)
     have HO6:=Y (zj hOm vn)
     have jd:=Y ((U jf).trans ((eE jl vn).mono (U jf).size))
     have oP:Hid (World.rangeAt (w6.alloc (N (yu next s tt Fl li L).toArray 49)) w6.heap.size 0 (yu next s tt Fl li L)):=zg w6 (yu next s tt Fl li L) _
     have HTX:Hid (∃ xp,(w6.alloc (N (yu next s tt Fl li L).toArray 49)).heap[w6.heap.size]? = some (.cells xp 49 (0,0))):=⟨_,heap_alloc_new w6 _⟩
     have hlt6:w6.heap.size < (w6.alloc (N (yu next s tt Fl li L).toArray 49)).heap.size:=by rw [zf]; omega
     have hX6:xm.heap.size ≤ w6.heap.size:=yL (U jf).size jl.size
     have h35:w3.heap.size ≤ w5.heap.size:=by have:=(U vJ).lt be rfl; omega
     clear vn jl hOm he6
     go_wp2_with fail
     refine U xq _ _ ?_
     clear xq
     generalize (w6.alloc (N (yu next s tt Fl li L).toArray 49)) = yb at qe jh HO6 jd oP HTX hlt6 ⊢
     generalize w6.heap.size = tb at oP HTX hlt6 hX6 ⊢
     have hX3:xm.heap.size ≤ w3.heap.size:=(U xP).size
     have hS3:w.heap.size + 1 + 1 < w3.heap.size:=yH vz hX3
     refine wp_seq_k fun hj hK=>?_
     have vu:∀ (v14:Value) (W:World),ERow W w3.heap.size v14 (⟨1,⟨1,s,ty,li,F,ii,pr,cutB L⟩,next,0,0,0,0⟩ :: Ft)→ORow W xm.heap.size (.slice am FL.length cm) FL→W.rangeAt tb 0 (yu next s tt Fl li L)→ym xm W→tb < W.heap.size→w3.heap.size ≤ W.heap.size→hj { tmps:=#[.agg #[H next,.slice a l.length A],.agg (yv 1 s ty li F ii pr L).toArray,yn w 0,I (w.heap.size + 1) 0,I (w.heap.size + 1 + 1) 0,.slice none 0 0,.slice am FL.length cm,H 0,H pk,M,M,M,M,M,v14,I tb 0,.slice ae Ft.length ce,M,.slice (some (yp xm 0)) 0 0,yn w 1,.slice a l.length A,.slice a6 l.length c6,.agg #[H next,.slice a l.length A],.agg (yv 1 s ty li F ii pr L).toArray,H 0,H 0,.bool false,M,M,M,M,M,M,M,M,M,.slice a6 l.length c6,I (w.heap.size + 1) 5,H ii,H pk,I (w.heap.size + 1) 0,H 1,.bool false,.bool false,M,M,M,M,M,M,M,M,M,M,M,M,M,M,M,M,.bool false,.bool false,M,M,M,M,M,M,M,M,M,M,M,M,M,M,M,M,.bool false,.bool false,M,M,M,M,M,M,M,M,M,M,M,M,M,M,M,M,M,M,M,M,M,M,M,M,M,M,M,M,M,M,M,M,M,M,M,M,M,M,M,M,M,M,M,M,M,tm0,tm1,tm2,tm3,tm4,.slice (some (J be 0)) 1 1,.tuple #[.slice am FL.length cm,.agg (yu next s tt Fl li L).toArray,.slice ae Ft.length ce],.slice a6 l.length c6,.agg #[H next,.slice a l.length A],.agg (yv 1 s ty li F ii pr L).toArray,.agg (yu next s tt F li L).toArray,.tuple #[.slice am FL.length cm,.agg (yu next s tt Fl li L).toArray,.slice ae Ft.length ce],.slice am FL.length cm,.agg (yu next s tt Fl li L).toArray,.slice ae Ft.length ce,.slice (some (J be 0)) 1 1,.slice ae Ft.length ce,v14,M,M,M,M,M,M,M,M,M,M,M,M,M,M,M,M,M,M,M,M,M,M,M,M,M,M,M,M],defers:=[] } W:=by
      intro v14 W he Z oL vp htb h3W0
      refine hK _ _ ?_
      clear hK HTX oP qe jh HO6 jd hlt6 vJ kL jf HE4 oe xY HMTT qO ou
      have hlev:(⟨1,⟨1,s,ty,li,F,ii,pr,cutB L⟩,next,0,0,0,0⟩ :: Ft:List Ev).length ≤ 100:=by simp; omega
      generalize hevs:(⟨1,⟨1,s,ty,li,F,ii,pr,cutB L⟩,next,0,0,0,0⟩ :: Ft:List Ev) = evs at he hlev
      have HEVS:=Y hevs
      have vK:=Y he
      have jO:=Y Z
      have HTKV:=Y oL
      have xr:=Y vp
      clear he Z oL vp hevs
      have q0:W.cell? (J tb 0) = some (H next):=U HTKV 0 _ rfl
      have q3:W.cell? (J tb 3) = some (H Fl):=U HTKV 3 _ rfl
      refine eF fun K3 vB=>?_
      by_cases hFl:0 < Fl
      ·have oy:ym W (W.alloc (N (yt 5 0 0 0 0 0 0 0 ⟨#[]⟩ next 0 Fl 0 0).toArray 46)):=eB _ _
       have hy2:World.cell? (W.alloc (N (yt 5 0 0 0 0 0 0 0 ⟨#[]⟩ next 0 Fl 0 0).toArray 46)) (J (w.heap.size + 1) 2) = some (H ty):=(U xG _ (eE (U xr) oy)).2.2.2.2.1
       have HEW:=Y (zI (U vK) oy)
       have HLW:=Y (zj (U jO) oy)
       have oo:=Y (eE (U xr) oy)
       have kl:=Y (zb (U HTKV) oy htb)
       have H3W:Hid (w3.heap.size ≤ (W.alloc (N (yt 5 0 0 0 0 0 0 0 ⟨#[]⟩ next 0 Fl 0 0).toArray 46)).heap.size):=yL h3W0 oy.size
       have qn:Hid (World.rangeAt (W.alloc (N (yt 5 0 0 0 0 0 0 0 ⟨#[]⟩ next 0 Fl 0 0).toArray 46)) W.heap.size 0 (Ev.vs ⟨5,zCm,next,0,Fl,0,0⟩)):=zg W (Ev.vs ⟨5,zCm,next,0,Fl,0,0⟩) _
       have HXT:Hid (World.there (W.alloc (N (yt 5 0 0 0 0 0 0 0 ⟨#[]⟩ next 0 Fl 0 0).toArray 46)) W.heap.size 0 14):=zt W (Ev.vs ⟨5,zCm,next,0,Fl,0,0⟩) _
       have htb7:tb < (W.alloc (N (yt 5 0 0 0 0 0 0 0 ⟨#[]⟩ next 0 Fl 0 0).toArray 46)).heap.size:=yH htb oy.size
       have hebX:xm.heap.size ≤ W.heap.size:=(U xr).size
       have heb7:W.heap.size < (W.alloc (N (yt 5 0 0 0 0 0 0 0 ⟨#[]⟩ next 0 Fl 0 0).toArray 46)).heap.size:=by rw [zf]; omega
       have htbe:tb ≠ W.heap.size:=by omega
       have HXB:Hid (∃ xp,(W.alloc (N (yt 5 0 0 0 0 0 0 0 ⟨#[]⟩ next 0 Fl 0 0).toArray 46)).heap[W.heap.size]? = some (.cells xp 46 (0,0))):=⟨_,heap_alloc_new W _⟩
       have hebE:Hid (∀ g,v14.ownBlock = some g→g ≠ W.heap.size):=fun g hg=>by have:=((U vK).lt g hg).2; omega
       have hsf:=sfl
       clear oy
       go_wp2_with fail
       refine (cB ty _).mono ?_
       rintro e w' ⟨rfl,ul⟩
       rw [ul]
       clear ul w' q0 q3
       generalize (W.alloc (N (yt 5 0 0 0 0 0 0 0 ⟨#[]⟩ next 0 Fl 0 0).toArray 46)) = W7 at HEW HLW oo kl H3W qn HXT HXB htb7 heb7 hy2 ⊢
       generalize W.heap.size = eb at qn HXT HXB hebX heb7 htbe hebE ⊢
       clear hy2
       cases qI:aC ty
       ·have x0:W7.cell? (J eb 0) = some (H 5):=U qn 0 _ rfl
        have x1:W7.cell? (J eb 1) = some (H 0):=U qn 1 _ rfl
        have x2:W7.cell? (J eb 2) = some (H 0):=U qn 2 _ rfl
        have x3:W7.cell? (J eb 3) = some (H 0):=U qn 3 _ rfl
        have x4:W7.cell? (J eb 4) = some (H 0):=U qn 4 _ rfl
        have x5:W7.cell? (J eb 5) = some (H 0):=U qn 5 _ rfl
        have x6:W7.cell? (J eb 6) = some (H 0):=U qn 6 _ rfl
        have x7:W7.cell? (J eb 7) = some (yi 0):=U qn 7 _ rfl
        have x8:W7.cell? (J eb 8) = some (yj ⟨#[]⟩):=U qn 8 _ rfl
        have x9:W7.cell? (J eb 9) = some (H next):=U qn 9 _ rfl
        have x10:W7.cell? (J eb 10) = some (H 0):=U qn 10 _ rfl
        have x11:W7.cell? (J eb 11) = some (H Fl):=U qn 11 _ rfl
        have x12:W7.cell? (J eb 12) = some (H 0):=U qn 12 _ rfl
        have x13:W7.cell? (J eb 13) = some (H 0):=U qn 13 _ rfl
        have HEA:=Y ((U HEW).alloc (N (yt 5 0 0 0 0 0 0 0 ⟨#[]⟩ next 0 Fl 0 0).toArray 46))
        have qd:Hid (ym W7 (W7.alloc (N (yt 5 0 0 0 0 0 0 0 ⟨#[]⟩ next 0 Fl 0 0).toArray 46))):=eB _ _
        have h3W:w3.heap.size ≤ W7.heap.size:=U H3W
        go_wp2_with (at_builtin; go_must (refine wpList_append_own _ rfl _ _ 38 rfl w3.heap.size 46 j0 _ 14 120 Tryz.underlying38 jz jI kX hy2 rfl (by decide) v14 evs.length (evs.flatMap Ev.vs) rfl (U HEA) (yp W7 0) 1 1 (Ev.vs ⟨5,zCm,next,0,Fl,0,0⟩) rfl rfl (bW W7 (Ev.vs ⟨5,zCm,next,0,Fl,0,0⟩) 46) (one_ev ⟨5,zCm,next,0,Fl,0,0⟩) (by unfold maxLen; omega) (by omega) (yL h3W (U qd).size) ?_); intro v5 w9 vA au _; have HO9:=Y vA; have HG9:=Y au; clear vA au)
        have HE9:Hid (ERow w9 w3.heap.size v5 (evs ++ [⟨5,zCm,next,0,Fl,0,0⟩])):=by
         show w9.ownsRow _ _ _ _ (evs ++ [(⟨5,zCm,next,0,Fl,0,0⟩:Ev)]).length _
         rw [yN,List.flatMap_append]
         simpa using U HO9
        have HL9:=Y (World.ownsRow.kept (zj (U HLW) (U qd)) (U HG9) (zC (zj (U HLW) (U qd)) (U HEA) (by decide)))
        have ka:Hid (ym xm w9):=by
         have G:=(U oo).trans ((U qd).mono (U oo).size)
         exact G.grown (U HG9) G.size (fun g hg=>yL hX3 ((U HEA).lt g hg).1)
        clear HO9 HG9 HEA qd
        go_wp2_with fail
        refine U vB _ _ ?_
        clear vB
        obtain ⟨z0,z1,y0,y1,y2,y3,y4,y5,y6,y7⟩:=U xG w9 (U ka)
        have qh:=ze (U HB).2.2.2.2.1 (U ka) vz
        obtain ⟨p0,x0,f0⟩:=zc qh (j:=0) (by omega)
        obtain ⟨p1,x1,f1⟩:=zc qh (j:=1) (by omega)
        have hBW:=(U HB).2.2.2.2.2.trans ((U ka).mono (U HB).2.2.2.2.2.size)
        have HWF:Hid (ym w ((w9.setCell (J (w.heap.size + 1 + 1) 0) (H (next + 1))).setCell (J (w.heap.size + 1 + 1) 1) (.slice am FL.length cm))):=(hBW.setCell (p:=(J (w.heap.size + 1 + 1) 0)) (show w.heap.size ≤ w.heap.size + 1 + 1 by omega) _).setCell (p:=(J (w.heap.size + 1 + 1) 1)) (show w.heap.size ≤ w.heap.size + 1 + 1 by omega) _
        have HEF:Hid (ERow ((w9.setCell (J (w.heap.size + 1 + 1) 0) (H (next + 1))).setCell (J (w.heap.size + 1 + 1) 1) (.slice am FL.length cm)) w.heap.size v5 (evs ++ [⟨5,zCm,next,0,Fl,0,0⟩])):=zE (cE (cE (U HE9) hS3 0 _) hS3 1 _) (by omega)
        have HLF:Hid (ORow ((w9.setCell (J (w.heap.size + 1 + 1) 0) (H (next + 1))).setCell (J (w.heap.size + 1 + 1) 1) (.slice am FL.length cm)) w.heap.size (.slice am FL.length cm) (FL)):=zE (bE (bE (U HL9) vz 0 _) vz 1 _) hXw
        have oq:Hid (((w9.setCell (J (w.heap.size + 1 + 1) 0) (H (next + 1))).setCell (J (w.heap.size + 1 + 1) 1) (.slice am FL.length cm)).cell? (J (w.heap.size + 1 + 1) 0) = some (H (next + 1))):=(yJ _ _ _ _ (zQ (by decide))).trans (yK _ _ _ x0)
        have qY:Hid (((w9.setCell (J (w.heap.size + 1 + 1) 0) (H (next + 1))).setCell (J (w.heap.size + 1 + 1) 1) (.slice am FL.length cm)).cell? (J (w.heap.size + 1 + 1) 1) = some (.slice am FL.length cm)):=yK _ _ _ ((yJ _ _ _ _ (zQ (by decide))).trans x1)
        clear qh hBW y0 y1 y2 y3 y4 y5 y6 y7
        go_wp2_with fail
        have d0:=U oq
        have d1:=U qY
        try simp only [Exit.inBlock,Exit.then]
        refine bodyPost_ret (by simp [results,Tryz.results44,go_sem,d0,d1]; try rfl) rfl ?_
        obtain ⟨rfl,kt,jZ⟩:=U uI
        rw [if_neg (fun h=>by rw [qI] at h; cases h.2)] at kt
        rw [if_pos hFl,if_neg (by rw [qI]; simp),U HEVS] at jZ
        subst kt jZ
        exact ⟨_,_,rfl,U HLF,U HEF,U HWF⟩
       ·have xe0:W7.cell? (J eb 0) = some (H 5):=U qn 0 _ rfl
        have fe0:W7.frozen? (J eb 0) = false:=(U HXT 0 (by omega)).2
        have HEW8:Hid (ERow (W7.setCell (J eb 0) (H 4)) w3.heap.size v14 evs):=zw (U HEW) (fun e=>U hebE eb e.symm rfl) 0 _
        have HLW8:Hid (ORow (W7.setCell (J eb 0) (H 4)) xm.heap.size (.slice am FL.length cm) FL):=zw (U HLW) (zl (U HLW) (U HXB) (by decide)) 0 _
        have HBW8:Hid (ym xm (W7.setCell (J eb 0) (H 4))):=(U oo).setCell (p:=(J eb 0)) hebX _
        have HTKW8:Hid (World.rangeAt (W7.setCell (J eb 0) (H 4)) tb 0 (yu next s tt Fl li L)):=fun j u K=>(yJ _ _ _ _ (fun e=>htbe (congrArg Addr.block e).symm)).trans (U kl j u K)
        have HXR8:Hid (World.rangeAt (W7.setCell (J eb 0) (H 4)) eb 0 (Ev.vs ⟨4,zCm,next,0,Fl,0,0⟩)):=by have:=bZ (j:=0) (u:=H 4) (U qn) (by rw [Ev.len]; decide); exact this
        have H3W8:Hid (w3.heap.size ≤ (W7.setCell (J eb 0) (H 4)).heap.size):=by have:=U H3W; simp only [World.setCell,Array.size_modify]; exact this
        have heb8:eb < (W7.setCell (J eb 0) (H 4)).heap.size:=by simp only [World.setCell,Array.size_modify]; exact heb7
        have htb8:tb < (W7.setCell (J eb 0) (H 4)).heap.size:=by simp only [World.setCell,Array.size_modify]; exact htb7
        clear HEW HLW oo kl qn H3W HXT HXB
        go_wp2_with fail
        clear xe0 fe0
        generalize (W7.setCell (J eb 0) (H 4)) = W8 at HEW8 HLW8 HBW8 HTKW8 HXR8 H3W8 heb8 htb8 ⊢
        have HLW:=Y (U HLW8)
        have kl:=Y (U HTKW8)
        refine zi (RZBA (fun f=>{ tmps:=#[.agg #[H next,.slice a l.length A],.agg (yv 1 s ty li F ii pr L).toArray,yn w 0,I (w.heap.size + 1) 0,I (w.heap.size + 1 + 1) 0,.slice none 0 0,f 6,H 0,H pk,M,M,M,M,M,v14,I tb 0,.slice ae Ft.length ce,I eb 0,.slice (some (yp xm 0)) 0 0,yn w 1,.slice a l.length A,.slice a6 l.length c6,.agg #[H next,.slice a l.length A],.agg (yv 1 s ty li F ii pr L).toArray,H 0,H 0,.bool false,M,M,M,M,M,M,M,M,M,.slice a6 l.length c6,I (w.heap.size + 1) 5,H ii,H pk,I (w.heap.size + 1) 0,H 1,.bool false,.bool false,M,M,M,M,M,M,M,M,M,M,M,M,M,M,M,M,.bool false,.bool false,M,M,M,M,M,M,M,M,M,M,M,M,M,M,M,M,.bool false,.bool false,M,M,M,M,M,M,M,M,M,M,M,M,M,M,M,M,M,M,M,M,M,M,M,M,M,M,M,M,M,M,M,M,M,M,M,M,M,M,M,M,M,M,M,M,M,tm0,tm1,tm2,tm3,tm4,.slice (some (J be 0)) 1 1,.tuple #[.slice am FL.length cm,.agg (yu next s tt Fl li L).toArray,.slice ae Ft.length ce],.slice a6 l.length c6,.agg #[H next,.slice a l.length A],.agg (yv 1 s ty li F ii pr L).toArray,.agg (yu next s tt F li L).toArray,.tuple #[.slice am FL.length cm,.agg (yu next s tt Fl li L).toArray,.slice ae Ft.length ce],.slice am FL.length cm,.agg (yu next s tt Fl li L).toArray,.slice ae Ft.length ce,.slice (some (J be 0)) 1 1,.slice ae Ft.length ce,v14,I tb 3,H Fl,.bool true,I tb 0,H next,I tb 3,H Fl,.agg (yt 5 0 0 0 0 0 0 0 ⟨#[]⟩ next 0 Fl 0 0).toArray,I (w.heap.size + 1) 2,H ty,.bool true,I eb 0,f 0,f 1,f 2,f 3,f 4,f 5,M,M,M,M,M,M,M,M,M,M],defers:=[] }) (CZ (.slice am FL.length cm) (.agg (yu next s tt Fl li L).toArray)) W8 FL ⟨next,s,tt,Fl,li,L⟩ (.slice am FL.length cm)) (by kernel_rfl) ?_ ?_ ?_
        ·exact ⟨fun j=>if j = 6 then .slice am FL.length cm else M,rfl,rz_start,ryb_start rfl⟩
        rotate_left
        ·rintro x xj V i op ⟨f,rfl,E,hA⟩ X hx Z xu Q
         have xw:=Y E
         have qC:=Y hA
         clear hA
         have xk:∀ (p:Addr) u,W8.cell? p = some u→V.cell? p = some u:=fun p u hu=>(E.bel.cell (yI W8 _ hu)).trans hu
         match i,Z with
         | 0,Z =>
          obtain rfl:=ya Z
          clear Q E X xk
          rw [if_pos (by rfl)];unfold Oper.wp;go_simp
          exact ⟨upd f 0 (.slice (some (yp V 0)) 0 0),by simp [upd],rz_0 (U xw) xu (fun _=>trivial),aJ _ (U qC) (by decide) (by decide)⟩
         | 1,Z =>
          obtain rfl:=ya Z
          have g6:f 6 = .slice am FL.length cm:=(U qC).2 (zy X 12 1 6 (by kernel_rfl) hx (by simp) xu)
          clear Q E X xk
          rw [if_pos (by rfl)];unfold Oper.wp;go_simp
          exact ⟨upd f 1 (.slice am FL.length cm),by simp [upd,g6],rz_val (U xw) 1 _ rfl (by decide) (by decide) (by decide) (by decide),aJ _ (U qC) (by decide) (by decide)⟩
         | 2,Z =>
          obtain rfl:=ya Z
          have k0:x[0]? = some true:=Q ⟨0,.data⟩ (by simp) rfl
          have g1:f 1 = .slice am FL.length cm:=E.c 1 (yd Q 1 rfl)
          have n5:x[5]? = some false:=zy X 12 2 5 (by kernel_rfl) hx (by simp) xu
          have vL:=Y (E.m0 k0 xu)
          have xV:=E.bel
          have HRDV:Hid (∀ ad,am = some ad→∀ j u,(FL.flatMap Od.vs)[j]? = some u→V.cell? (ad.add j) = some u):=fun ad had=>by
           have h:=zR (zj (U HLW) xV) (by omega)
           rw [had] at h
           exact rd_src h
          have HSLV:=Y (oRow_sl (U HLW))
          clear Q E X xk
          rw [if_pos (by rfl)]
          rcases U HSLV with h | ⟨ad,nn,cc,h⟩
          ·simp only [Value.slice.injEq] at h
           have hL:FL = []:=List.length_eq_zero_iff.1 h.2.1
           refine eA (.tmp 155) (.tmp 156) 26 rfl W8.heap.size 49 i0 6 Tryz.underlying26 uE (f 0) 0 [] rfl (U vL) (by show f 1 = _; rw [g1,h.1,h.2.1,h.2.2]) ?_
           exact ⟨upd f 2 (f 0),rfl,rz_2 (U xw) k0 xu n5 (fun _=>trivial) (by rw [hL]; exact U vL) (yP _ _),aJ _ (U qC) (by decide) (by decide)⟩
          ·simp only [Value.slice.injEq] at h
           refine wp_append_own V (.tmp 155) (.tmp 156) 26 rfl W8.heap.size 49 i0 _ 6 56 Tryz.underlying26 uE uF uK uV rfl (by decide) (f 0) 0 [] rfl (U vL) ad FL.length cm (FL.flatMap Od.vs) (by show f 1 = _; rw [g1,h.1]) (by rw [zK Od.len]) (U HRDV ad h.1) (bi FL) (by unfold maxLen; omega) (by omega) xV.size ?_
           intro v' w' xN uc _
           refine ⟨upd f 2 v',rfl,rz_2 (U xw) k0 xu n5 (fun _=>trivial) ?_ uc,aJ _ (U qC) (by decide) (by decide)⟩
           show w'.ownsRow _ _ _ _ FL.length _
           simpa using xN
         | 3,Z =>
          obtain rfl:=ya Z
          have t0:=xk (J tb 0) _ (U kl 0 _ rfl)
          have t1:=xk (J tb 1) _ (U kl 1 _ rfl)
          have t2:=xk (J tb 2) _ (U kl 2 _ rfl)
          have t3:=xk (J tb 3) _ (U kl 3 _ rfl)
          have t4:=xk (J tb 4) _ (U kl 4 _ rfl)
          have t5:=xk (J tb 5) _ (U kl 5 _ rfl)
          clear Q E X xk
          rw [if_pos (by rfl)];unfold Oper.wp;go_simp
          exact ⟨upd f 3 (.agg (yu next s tt Fl li L).toArray),by simp [upd],rz_val (U xw) 3 _ rfl (by decide) (by decide) (by decide) (by decide),aJ _ (U qC) (by decide) (by decide)⟩
         | 4,Z =>
          obtain rfl:=ya Z
          have g3:f 3 = .agg (yu next s tt Fl li L).toArray:=E.c 3 (yd Q 3 rfl)
          have n5:x[5]? = some false:=zy X 12 4 5 (by kernel_rfl) hx (by simp) xu
          clear Q E X xk
          rw [if_pos (by rfl)];unfold Oper.wp;go_simp
          exact ⟨upd f 4 (.slice (some (yp V 0)) 1 1),by simp [upd,g3],rz_4 (U xw) xu n5 (fun _=>trivial),aJ _ (U qC) (by decide) (by decide)⟩
         | 5,Z =>
          obtain rfl:=ya Z
          have k2:x[2]? = some true:=Q ⟨2,.data⟩ (by simp) rfl
          obtain ⟨b4,g4,xU,xS,uw,-⟩:=E.m4 (yd Q 4 rfl) xu
          have vV:=Y (E.m2 k2 xu)
          have xV:=E.bel
          have h6:x[6]? = some false:=zy X 12 5 6 (by kernel_rfl) hx (by simp) xu
          have vf:Hid (∀ j u,(Od.vs ⟨next,s,tt,Fl,li,L⟩)[j]? = some u→V.cell? (((J b4 0):Addr).add j) = some u):=fun j u hu=>by
           have:=uw j u hu
           rw [Addr.add_mid]; exact this
          clear Q E X uw xk
          rw [if_pos (by rfl)]
          refine wp_append_own V (.tmp 157) (.tmp 159) 26 rfl W8.heap.size 49 i0 _ 6 56 Tryz.underlying26 uE uF uK uV rfl (by decide) (f 2) FL.length (FL.flatMap Od.vs) rfl (U vV) (J b4 0) 1 1 (Od.vs ⟨next,s,tt,Fl,li,L⟩) (by show f 4 = _; exact g4) rfl (U vf) (one_od ⟨next,s,tt,Fl,li,L⟩) (by unfold maxLen; omega) (by omega) xV.size ?_
          intro v' w' xN uc _
          refine ⟨upd f 5 v',rfl,rz_5 (U xw) k2 xu (fun _=>trivial) ?_ uc,ryb_write v' (U qC) h6⟩
          show w'.ownsRow _ _ _ _ (FL ++ [(⟨next,s,tt,Fl,li,L⟩:Od)]).length _
          rw [yN,List.flatMap_append]
          simpa using xN
         | 6,Z =>
          obtain rfl:=ya Z
          have k5:x[5]? = some true:=Q ⟨5,.data⟩ (by simp) rfl
          clear Q E X xk
          rw [if_pos (by rfl)];unfold Oper.wp;go_simp
          exact ⟨upd f 6 (f 5),by simp [upd],rz_val (U xw) 6 _ trivial (by decide) (by decide) (by decide) (by decide),ryb_lay xu⟩
         | n + 7,Z=>simp at Z
        ·rintro x xj V ⟨f,rfl,E,hA⟩ hx xL
         have xn:=zO xL hx (by kernel_rfl)
         have e6:f 6 = f 5:=hA.1 (xn 6 (by simp))
         have hO5:=E.m5 (xn 5 (by simp))
         have xV:=E.bel
         obtain ⟨aL,cL,hvL⟩:=zL hO5
         rw [hvL] at hO5 e6
         generalize (FL ++ [(⟨next,s,tt,Fl,li,L⟩:Od)]).length = nL at hO5 e6
         simp only [e6]
         have HLW:=Y (zE hO5 (show xm.heap.size ≤ W8.heap.size from (U HBW8).size))
         have HEW:=Y (zI (U HEW8) xV)
         have oo:=Y (eE (U HBW8) xV)
         have qn:=Y (zb (U HXR8) xV heb8)
         have H3W:Hid (w3.heap.size ≤ V.heap.size):=yL (U H3W8) xV.size
         clear E hA xn xL hx hO5 xV e6 hvL
         generalize f 0 = tn0,f 1 = tn1,f 2 = tn2,f 3 = tn3,f 4 = tn4,f 5 = tn5
         obtain ⟨x0,x1,x2,x3,x4,x5,x6,x7,x8,x9,x10,x11,x12,x13⟩:=yD (U qn)
         have HEA:=Y ((U HEW).alloc (N (yt 4 0 0 0 0 0 0 0 ⟨#[]⟩ next 0 Fl 0 0).toArray 46))
         have qd:Hid (ym V (V.alloc (N (yt 4 0 0 0 0 0 0 0 ⟨#[]⟩ next 0 Fl 0 0).toArray 46))):=eB _ _
         have h3W:w3.heap.size ≤ V.heap.size:=U H3W
         go_wp2_with (at_builtin; go_must (refine wpList_append_own _ rfl _ _ 38 rfl w3.heap.size 46 j0 _ 14 120 Tryz.underlying38 jz jI kX hy2 rfl (by decide) v14 evs.length (evs.flatMap Ev.vs) rfl (U HEA) (yp V 0) 1 1 (Ev.vs ⟨4,zCm,next,0,Fl,0,0⟩) rfl rfl (bW V (Ev.vs ⟨4,zCm,next,0,Fl,0,0⟩) 46) (one_ev ⟨4,zCm,next,0,Fl,0,0⟩) (by unfold maxLen; omega) (by omega) (yL h3W (U qd).size) ?_); intro v5 w9 vA au _; have HO9:=Y vA; have HG9:=Y au; clear vA au)
         have HE9:Hid (ERow w9 w3.heap.size v5 (evs ++ [⟨4,zCm,next,0,Fl,0,0⟩])):=by
          show w9.ownsRow _ _ _ _ (evs ++ [(⟨4,zCm,next,0,Fl,0,0⟩:Ev)]).length _
          rw [yN,List.flatMap_append]
          simpa using U HO9
         have HL9:=Y (World.ownsRow.kept (zj (U HLW) (U qd)) (U HG9) (zC (zj (U HLW) (U qd)) (U HEA) (by decide)))
         have ka:Hid (ym xm w9):=by
          have G:=(U oo).trans ((U qd).mono (U oo).size)
          exact G.grown (U HG9) G.size (fun g hg=>yL hX3 ((U HEA).lt g hg).1)
         clear HO9 HG9 HEA qd
         go_wp2_with fail
         refine U vB _ _ ?_
         clear vB
         obtain ⟨z0,z1,y0,y1,y2,y3,y4,y5,y6,y7⟩:=U xG w9 (U ka)
         have qh:=ze (U HB).2.2.2.2.1 (U ka) vz
         obtain ⟨p0,x0,f0⟩:=zc qh (j:=0) (by omega)
         obtain ⟨p1,x1,f1⟩:=zc qh (j:=1) (by omega)
         have hBW:=(U HB).2.2.2.2.2.trans ((U ka).mono (U HB).2.2.2.2.2.size)
         have HWF:Hid (ym w ((w9.setCell (J (w.heap.size + 1 + 1) 0) (H (next + 1))).setCell (J (w.heap.size + 1 + 1) 1) (.slice aL nL cL))):=(hBW.setCell (p:=(J (w.heap.size + 1 + 1) 0)) (show w.heap.size ≤ w.heap.size + 1 + 1 by omega) _).setCell (p:=(J (w.heap.size + 1 + 1) 1)) (show w.heap.size ≤ w.heap.size + 1 + 1 by omega) _
         have HEF:Hid (ERow ((w9.setCell (J (w.heap.size + 1 + 1) 0) (H (next + 1))).setCell (J (w.heap.size + 1 + 1) 1) (.slice aL nL cL)) w.heap.size v5 (evs ++ [⟨4,zCm,next,0,Fl,0,0⟩])):=zE (cE (cE (U HE9) hS3 0 _) hS3 1 _) (by omega)
         have HLF:Hid (ORow ((w9.setCell (J (w.heap.size + 1 + 1) 0) (H (next + 1))).setCell (J (w.heap.size + 1 + 1) 1) (.slice aL nL cL)) w.heap.size (.slice aL nL cL) (FL ++ [⟨next,s,tt,Fl,li,L⟩])):=zE (bE (bE (U HL9) vz 0 _) vz 1 _) hXw
         have oq:Hid (((w9.setCell (J (w.heap.size + 1 + 1) 0) (H (next + 1))).setCell (J (w.heap.size + 1 + 1) 1) (.slice aL nL cL)).cell? (J (w.heap.size + 1 + 1) 0) = some (H (next + 1))):=(yJ _ _ _ _ (zQ (by decide))).trans (yK _ _ _ x0)
         have qY:Hid (((w9.setCell (J (w.heap.size + 1 + 1) 0) (H (next + 1))).setCell (J (w.heap.size + 1 + 1) 1) (.slice aL nL cL)).cell? (J (w.heap.size + 1 + 1) 1) = some (.slice aL nL cL)):=yK _ _ _ ((yJ _ _ _ _ (zQ (by decide))).trans x1)
         clear qh hBW y0 y1 y2 y3 y4 y5 y6 y7
         go_wp2_with fail
         have d0:=U oq
         have d1:=U qY
         try simp only [Exit.inBlock,Exit.then]
         refine bodyPost_ret (by simp [results,Tryz.results44,go_sem,d0,d1]; try rfl) rfl ?_
         obtain ⟨rfl,kt,jZ⟩:=U uI
         rw [if_pos ⟨hFl,qI⟩] at kt
         rw [if_pos hFl,if_pos qI,U HEVS] at jZ
         subst kt jZ
         exact ⟨_,_,rfl,U HLF,U HEF,U HWF⟩
      ·go_wp2_with fail
       refine U vB _ _ ?_
       clear vB
       obtain ⟨z0,z1,y0,y1,y2,y3,y4,y5,y6,y7⟩:=U xG W (U xr)
       have qh:=ze (U HB).2.2.2.2.1 (U xr) vz
       obtain ⟨p0,x0,f0⟩:=zc qh (j:=0) (by omega)
       obtain ⟨p1,x1,f1⟩:=zc qh (j:=1) (by omega)
       have hBW:=(U HB).2.2.2.2.2.trans ((U xr).mono (U HB).2.2.2.2.2.size)
       have HWF:Hid (ym w ((W.setCell (J (w.heap.size + 1 + 1) 0) (H (next + 1))).setCell (J (w.heap.size + 1 + 1) 1) (.slice am FL.length cm))):=(hBW.setCell (p:=(J (w.heap.size + 1 + 1) 0)) (show w.heap.size ≤ w.heap.size + 1 + 1 by omega) _).setCell (p:=(J (w.heap.size + 1 + 1) 1)) (show w.heap.size ≤ w.heap.size + 1 + 1 by omega) _
       have HEF:Hid (ERow ((W.setCell (J (w.heap.size + 1 + 1) 0) (H (next + 1))).setCell (J (w.heap.size + 1 + 1) 1) (.slice am FL.length cm)) w.heap.size v14 (evs)):=zE (cE (cE (U vK) hS3 0 _) hS3 1 _) (by omega)
       have HLF:Hid (ORow ((W.setCell (J (w.heap.size + 1 + 1) 0) (H (next + 1))).setCell (J (w.heap.size + 1 + 1) 1) (.slice am FL.length cm)) w.heap.size (.slice am FL.length cm) (FL)):=zE (bE (bE (U jO) vz 0 _) vz 1 _) hXw
       have oq:Hid (((W.setCell (J (w.heap.size + 1 + 1) 0) (H (next + 1))).setCell (J (w.heap.size + 1 + 1) 1) (.slice am FL.length cm)).cell? (J (w.heap.size + 1 + 1) 0) = some (H (next + 1))):=(yJ _ _ _ _ (zQ (by decide))).trans (yK _ _ _ x0)
       have qY:Hid (((W.setCell (J (w.heap.size + 1 + 1) 0) (H (next + 1))).setCell (J (w.heap.size + 1 + 1) 1) (.slice am FL.length cm)).cell? (J (w.heap.size + 1 + 1) 1) = some (.slice am FL.length cm)):=yK _ _ _ ((yJ _ _ _ _ (zQ (by decide))).trans x1)
       clear qh hBW y0 y1 y2 y3 y4 y5 y6 y7
       go_wp2_with fail
       have d0:=U oq
       have d1:=U qY
       try simp only [Exit.inBlock,Exit.then]
       refine bodyPost_ret (by simp [results,Tryz.results44,go_sem,d0,d1]; try rfl) rfl ?_
       obtain ⟨rfl,kt,jZ⟩:=U uI
       rw [if_neg (fun h=>by have:=h.1; omega)] at kt
       rw [if_neg (by omega),List.append_nil,U HEVS] at jZ
       subst kt jZ
       exact ⟨_,_,rfl,U HLF,U HEF,U HWF⟩
     have HT2':=Y vu
     clear vu hK
     have h3Y:w3.heap.size ≤ yb.heap.size:=by have:=(U qe).lt be rfl; omega
     rcases (U jh).2 with ⟨hv,h0⟩ | ⟨gt,ct,cut,hv,_⟩
     ·simp only [Value.slice.injEq] at hv
      obtain ⟨rfl,pE,rfl⟩:=hv
      obtain rfl:=List.length_eq_zero_iff.1 pE
      go_wp2_with (at_builtin; go_must (refine wpList_append_own_none rfl _ _ 38 rfl w3.heap.size 46 j0 14 Tryz.underlying38 jz (.slice (some (J be 0)) 1 1) 1 _ rfl (U qe) rfl ?_))
      exact U HT2' _ _ (U qe) (U HO6) (U oP) (U jd) hlt6 h3Y
     ·simp only [Value.slice.injEq] at hv
      obtain ⟨rfl,-,rfl⟩:=hv
      have vf:=Y (row_src (U jh))
      go_wp2_with (at_builtin; go_must (refine wpList_append_own _ rfl _ _ 38 rfl w3.heap.size 46 j0 _ 14 120 Tryz.underlying38 jz jI kX hy2 rfl (by decide) (.slice (some (J be 0)) 1 1) 1 _ rfl (U qe) (J gt 0) Ft.length ce (Ft.flatMap Ev.vs) rfl (by rw [zK Ev.len]) (U vf) (one_allE Ft) (by unfold maxLen; omega) (by omega) h3Y ?_); intro v14 w7 hown7 hg7 _; have HO7:=Y hown7; have pg:=Y hg7; clear hown7 hg7)
      have HE7:Hid (ERow w7 w3.heap.size v14 (⟨1,⟨1,s,ty,li,F,ii,pr,cutB L⟩,next,0,0,0,0⟩ :: Ft)):=by
       show w7.ownsRow _ _ _ _ (⟨1,⟨1,s,ty,li,F,ii,pr,cutB L⟩,next,0,0,0,0⟩ :: Ft:List Ev).length _
       have h:=U HO7
       rw [List.length_cons,Nat.add_comm]
       simpa using h
      exact U HT2' _ _ (U HE7) (World.ownsRow.kept (U HO6) (U pg) (zC (U HO6) (U qe) (by decide))) (fun j u K=>(yO (a:=(J tb (0 + j))) ((U pg).block tb hlt6 (zl (U qe) (U HTX) (by decide)))).trans (U oP j u K)) ((U jd).grown (U pg) (U jd).size (fun g hg=>yL hX3 ((U qe).lt g hg).1)) (yH hlt6 (U pg).size) (yL h3Y (U pg).size)
   ·exact absurd (U uA).2 (by decide)
   ·exact absurd (U uA).2 (by decide)
   ·exact absurd (U uA).2 (by decide)
  ·have kU:=vi
   have qI:(rr == 0) = false:=by rw [xb]; exact vi
   have uI:Hid (sN = next∧sL = l∧sE = [⟨2,⟨kk,s,ty,li,F,ii,pr,cutB L⟩,0,0,0,0,rr⟩]):=⟨by rw [U uX,if_neg (fun h=>vi h.1)],by rw [U uD,if_neg vi],by rw [U uW,if_neg vi]⟩
   skip
   exact absurd (U uA).1 kU
 rcases U vC with hs | ⟨ad,nn,cc,hs⟩
 ·simp only [Value.slice.injEq] at hs
  obtain ⟨rfl,pE,rfl⟩:=hs
  obtain rfl:=List.length_eq_zero_iff.1 pE
  obtain ⟨z0,z1,y0,y1,y2,y3,y4,y5,y6,y7⟩:=U xG xm (Below.refl _ _)
  have vL:=Y (World.ownsRow_made (base:=xm.heap.size) (e:=49) (size:=6) xm #[] 0 hb (by decide) rfl)
  have hzX:World.cell? (xm.alloc (N #[] 49)) (yp w 1) = some (.slice none 0 0):=(U xG _ (eB _ _)).2.1
  have kN:=Y HT
  clear HT hK
  go_wp2_with (at_builtin; go_must (refine wpList_append_own_none rfl _ _ 26 rfl xm.heap.size 49 i0 6 Tryz.underlying26 uE (.slice (some (yp xm 0)) 0 0) 0 [] rfl (U vL) rfl ?_))
  exact U kN _ _ _ (U vL) (eB _ _)
 ·simp only [Value.slice.injEq] at hs
  obtain ⟨rfl,rfl,rfl⟩:=hs
  obtain ⟨z0,z1,y0,y1,y2,y3,y4,y5,y6,y7⟩:=U xG xm (Below.refl _ _)
  have uP:Hid (ym xm (xm.alloc (N #[] 49))):=eB _ _
  have vL:=Y (World.ownsRow_made (base:=xm.heap.size) (e:=49) (size:=6) xm #[] 0 hb (by decide) rfl)
  have hzX:World.cell? (xm.alloc (N #[] 49)) (yp w 1) = some (.slice (some ad) l.length A):=(U xG _ (U uP)).2.1
  have vf:Hid (∀ j u,(l.flatMap Od.vs)[j]? = some u→World.cell? (xm.alloc (N #[] 49)) (ad.add j) = some u):=rd_src (zh (U HR) ((U HB).2.2.2.2.2.trans ((U uP).mono (U HB).2.2.2.2.2.size)) hb)
  have kN:=Y HT
  clear HT hK
  go_wp2_with (at_builtin; go_must (refine wpList_append_own _ rfl _ _ 26 rfl xm.heap.size 49 i0 _ 6 56 Tryz.underlying26 uE uF uK uV rfl (by decide) (.slice (some (yp xm 0)) 0 0) 0 [] rfl (U vL) ad l.length A (l.flatMap Od.vs) rfl (by rw [zK Od.len]) (U vf) (bi l) (by unfold maxLen; omega) (by omega) (U uP).size ?_); intro v1 w1 vd qk _; have vl:=Y vd; have kw:=Y qk; clear vd qk)
  have pX:Hid (ORow w1 xm.heap.size v1 l):=by
   show w1.ownsRow _ _ _ _ l.length _
   simpa using U vl
  obtain ⟨a6,c6,hv⟩:=zL (U pX)
  subst hv
  exact U kN _ _ _ (U pX) ((U uP).grown (U kw) (U uP).size (fun k hk=>((U vL).lt k hk).1))
end Go.Proofs.YtbakanofkghmiaaGreat
