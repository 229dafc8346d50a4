/-
  A command done on a book, by the model: proved by walking the function.
-/
import Derived.Test.YtbakanofkghmiaaGreatWj41
set_option linter.unusedVariables false
set_option maxHeartbeats 6400000
set_option maxRecDepth 100000
namespace Go.Proofs.YtbakanofkghmiaaGreat
open Go.RowKit
theorem l04Step_a (next:Int) (vb:Value) (l:List Od) (c:Cm) (w:World) (jc:refR next l c = 0∧c.k = 1) (hr:RdR Od.vs 6 w vb l) (hs:SlOk vb) (hg:GoodL l) (uD:∀ x ∈ l,x.side = 1 ∨ x.side = 2) (h0:0 ≤ next) (G:next ≤ 1000000) (ht:c.g.size ≤ maxLen) :
  Calls Tryz.prog 44 #[.agg #[H next,vb],cmV c] w fun e w'=>∃ vq vg,e = ym (.tuple #[.agg #[H (stN next l c),vq],vg])∧ORow w' w.heap.size vq (stL next l c)∧ERow w' w.heap.size vg (stE next l c)∧yn w w':=by
 obtain ⟨i0,uH,uF,uJ,uQ⟩:=info_parts Tryz.infoOrder
 obtain ⟨j0,jj,pY,hy1,hy2⟩:=info_parts infoEv
 have HR:=Y hr
 have vP:=Y hs
 have HG:=Y hg
 have qI:=Y ht
 have vN:=hg.len
 have uI:Hid (0 ≤ next∧next ≤ 1000000):=⟨h0,G⟩
 have uO:=Y (fun (W:World) hW=>dJ next vb l c W hW hs hg uD ht)
 rw [ref_eq] at uO
 have HK:=Y (@di next l c)
 have HQ:=Y (@cK next l c)
 have qN:=Y (@ref_id next l c)
 have jF:=Y (@ref_newS next l c)
 have uB:=Y jc
 clear jc
 have vj:Hid (stN next l c = if refR next l c = 0∧c.k = 1 then next + 1 else next):=rfl
 have uE:=Y (stL.eq_1 next l c)
 have vi:=Y (stE.eq_1 next l c)
 have oA:=Y (fun W=>dI c W ht)
 have uP:=Y (fun (a:Option Addr) (n A:Nat) (W:World)=>dt next a n A c W)
 have kg:=Y (fun (v:Value) (W:World) hr hs hp qd qe=>dr v l c next W hr hg hs hp qd qe)
 obtain ⟨a,A,rfl,vE,hc⟩:=hr
 obtain ⟨kk,s,ty,li,O,ii,pr,L⟩:=c
 generalize stN next l ⟨kk,s,ty,li,O,ii,pr,L⟩ = sN at vj ⊢
 generalize stL next l ⟨kk,s,ty,li,O,ii,pr,L⟩ = sL at uE ⊢
 generalize stE next l ⟨kk,s,ty,li,O,ii,pr,L⟩ = sE at vi ⊢
 generalize refR next l ⟨kk,s,ty,li,O,ii,pr,L⟩ = rr at uO vj uE vi HK HQ qN jF uB
 unfold cmV at uO uP ⊢
 simp only at uO vj uE vi HK HQ qN jF oA uP kg qI uB ⊢
 have HB:=Y (box3 w [H next,.slice a l.length A] (yw kk s ty li O ii pr L) [H 0,.slice none 0 0] 28 43 28)
 clear hs hg uD h0 G ht hc vE
 go_enter Tryz.func44,Tryz.ntmps44
 refine eH fun hj xu=>?_
 go_wp2_with fail
 refine U xu _ _ ?_
 clear xu
 change Hid ((((w.alloc (eF #[H next,.slice a l.length A] 28)).alloc (eF (yw kk s ty li O ii pr L).toArray 43)).alloc (eF #[H 0,.slice none 0 0] 28)).heap.size = w.heap.size + 3∧World.rangeAt (((w.alloc (eF #[H next,.slice a l.length A] 28)).alloc (eF (yw kk s ty li O ii pr L).toArray 43)).alloc (eF #[H 0,.slice none 0 0] 28)) w.heap.size 0 [H next,.slice a l.length A]∧World.rangeAt (((w.alloc (eF #[H next,.slice a l.length A] 28)).alloc (eF (yw kk s ty li O ii pr L).toArray 43)).alloc (eF #[H 0,.slice none 0 0] 28)) (w.heap.size + 1) 0 (yw kk s ty li O ii pr L)∧World.rangeAt (((w.alloc (eF #[H next,.slice a l.length A] 28)).alloc (eF (yw kk s ty li O ii pr L).toArray 43)).alloc (eF #[H 0,.slice none 0 0] 28)) (w.heap.size + 1 + 1) 0 [H 0,.slice none 0 0]∧World.there (((w.alloc (eF #[H next,.slice a l.length A] 28)).alloc (eF (yw kk s ty li O ii pr L).toArray 43)).alloc (eF #[H 0,.slice none 0 0] 28)) (w.heap.size + 1 + 1) 0 2∧yn w (((w.alloc (eF #[H next,.slice a l.length A] 28)).alloc (eF (yw kk s ty li O ii pr L).toArray 43)).alloc (eF #[H 0,.slice none 0 0] 28))) at HB
 generalize (((w.alloc (eF #[H next,.slice a l.length A] 28)).alloc (eF (yw kk s ty li O ii pr L).toArray 43)).alloc (eF #[H 0,.slice none 0 0] 28)) = hR at HB ⊢
 have xK:Hid (∀ W:World,yn hR W→W.cell? (yq w 0) = some (H next)∧W.cell? (yq w 1) = some (.slice a l.length A)∧W.cell? (J (w.heap.size + 1) 0) = some (H kk)∧W.cell? (J (w.heap.size + 1) 1) = some (H s)∧W.cell? (J (w.heap.size + 1) 2) = some (H ty)∧W.cell? (J (w.heap.size + 1) 3) = some (H li)∧W.cell? (J (w.heap.size + 1) 4) = some (H O)∧W.cell? (J (w.heap.size + 1) 5) = some (H ii)∧W.cell? (J (w.heap.size + 1) 6) = some (yj pr)∧W.cell? (J (w.heap.size + 1) 7) = some (yk L)):=fun W hW =>
  have p:=zb (U HB).2.1 hW (by have:=(U HB).1; omega)
  have q:=zb (U HB).2.2.1 hW (by have:=(U HB).1; omega)
  ⟨p 0 _ rfl,p 1 _ rfl,q 0 _ rfl,q 1 _ rfl,q 2 _ rfl,q 3 _ rfl,q 4 _ rfl,q 5 _ rfl,q 6 _ rfl,q 7 _ rfl⟩
 have vS:w.heap.size + 1 + 1 < hR.heap.size:=by have:=(U HB).1; omega
 refine wp_seq_k fun hj hK=>?_
 have HT:∀ (a6:Option Addr) (c6:Nat) (w1:World),ORow w1 hR.heap.size (.slice a6 l.length c6) l→yn hR w1→hj { tmps:=#[.agg #[H next,.slice a l.length A],.agg (yw kk s ty li O ii pr L).toArray,yp w 0,I (w.heap.size + 1) 0,I (w.heap.size + 1 + 1) 0,.slice none 0 0,.slice a6 l.length c6,M,M,M,M,M,M,M,M,M,M,M,.slice (some (yq hR 0)) 0 0,yp w 1,.slice a l.length A,.slice a6 l.length c6,M,M,M,M,M,M,M,M,M,M,M,M,M,M,M,M,M,M,M,M,M,M,M,M,M,M,M,M,M,M,M,M,M,M,M,M,M,M,M,M,M,M,M,M,M,M,M,M,M,M,M,M,M,M,M,M,M,M,M,M,M,M,M,M,M,M,M,M,M,M,M,M,M,M,M,M,M,M,M,M,M,M,M,M,M,M,M,M,M,M,M,M,M,M,M,M,M,M,M,M,M,M,M,M,M,M,M,M,M,M,M,M,M,M,M,M,M,M,M,M,M,M,M,M,M,M,M,M,M,M,M,M,M,M,M,M,M,M,M,M,M,M,M,M,M,M,M,M,M],defers:=[] } w1:=by
  intro a6 c6 w1 vu xW
  refine hK _ _ ?_
  clear hK
  have vp:=Y vu
  have xU:=Y xW
  clear vu xW
  obtain ⟨z0,z1,y0,y1,y2,y3,y4,y5,y6,y7⟩:=U xK w1 (U xU)
  refine eH fun hj xu=>?_
  go_wp2_with fail
  refine (U uO w1 (zn (U HR) ((U HB).2.2.2.2.2.trans ((U xU).mono (U HB).2.2.2.2.2.size)) qt)).mono ?_
  rintro e w2 ⟨rfl,xY⟩
  have vT:=Y (zm (U vp) xY)
  have xD:=Y (D (U xU) xY)
  clear z0 z1 y0 y1 y2 y3 y4 y5 y6 y7 xY vp
  obtain ⟨z0,z1,y0,y1,y2,y3,y4,y5,y6,y7⟩:=U xK w2 (U xD)
  have vU:=Y (zg (U HB).2.2.2.2.1 (U xD) vS)
  have oP:w.heap.size + 1 + 1 < w2.heap.size:=yJ vS (U xD).size
  have xM:=Y ((U HB).2.2.2.2.2.trans ((U xD).mono (U HB).2.2.2.2.2.size))
  have hXw:w.heap.size ≤ hR.heap.size:=by omega
  have hX2:hR.heap.size ≤ w2.heap.size:=(U xD).size
  have oj:=hX2
  by_cases vf:rr = 0
  ·subst vf
   have pR:=U HK rfl
   rcases pR with rfl | rfl | rfl | rfl
   ·have hq:=U HQ rfl rfl
    obtain ⟨hss,hpp,htt,hii⟩:=U jF rfl rfl
    have HMTT:=Y (fun (v:Value) (W:World) hr=>U kg v W hr hss hpp (by omega) hq.2)
    have pg:=Y (cz (c:=⟨1,s,ty,li,O,ii,pr,L⟩) (id:=next) 21 l O [] (U HG) (by omega) hq.2)
    have HMF:=Y (dy (c:=⟨1,s,ty,li,O,ii,pr,L⟩) (id:=next) 21 l O [])
    have uK:Hid (sN = next + 1∧sL = (if 0 < (matL ⟨1,s,ty,li,O,ii,pr,L⟩ next 21 l O []).2.1∧aO ty = true then (matL ⟨1,s,ty,li,O,ii,pr,L⟩ next 21 l O []).1 ++ [⟨next,s,tkS pr,(matL ⟨1,s,ty,li,O,ii,pr,L⟩ next 21 l O []).2.1,li,L⟩] else (matL ⟨1,s,ty,li,O,ii,pr,L⟩ next 21 l O []).1)∧sE = ⟨1,⟨1,s,ty,li,O,ii,pr,cutB L⟩,next,0,0,0,0⟩ :: (matL ⟨1,s,ty,li,O,ii,pr,L⟩ next 21 l O []).2.2 ++ (if 0 < (matL ⟨1,s,ty,li,O,ii,pr,L⟩ next 21 l O []).2.1 then [⟨if aO ty = true then 4 else 5,zCm,next,0,(matL ⟨1,s,ty,li,O,ii,pr,L⟩ next 21 l O []).2.1,0,0⟩] else [])):=⟨by rw [U vj,if_pos ⟨rfl,rfl⟩],by rw [U uE,if_pos rfl,if_pos rfl]; exact acc_l hpp,by rw [U vi,if_pos rfl,if_pos rfl,accE,cutB_tag htt,hii]⟩
    generalize matL ⟨1,s,ty,li,O,ii,pr,L⟩ next 21 l O [] = hb at uK HMTT pg HMF
    obtain ⟨FL,Fl,Ft⟩:=hb
    simp only at uK HMTT pg HMF
    generalize tkS pr = tt at uK HMTT uP
    have hFL:=(U pg).1.len
    have hFt:Ft.length ≤ 21:=by simpa using U HMF
    obtain ⟨hn0,hn1⟩:=U uI
    clear vj uE vi HQ qN HK jF kg hpp htt hii hss pg HMF
    go_wp2_with fail
    refine U xu _ _ ?_
    clear xu
    refine eH fun hj xu=>?_
    go_wp2_with fail
    refine (du _ l ii w2 (zN (U vT) (by omega))).mono ?_
    generalize plc l ii = pk
    rintro e w3 ⟨rfl,uC⟩
    have qQ:=Y (zm (U vT) uC)
    have xV:=Y (D (U xD) uC)
    clear uC z0 z1 y0 y1 y2 y3 y4 y5 y6 y7 vU xM oP oj
    have vU:=Y (zg (U HB).2.2.2.2.1 (U xV) vS)
    have oP:w.heap.size + 1 + 1 < w3.heap.size:=yJ vS (U xV).size
    have xM:=Y ((U HB).2.2.2.2.2.trans ((U xV).mono (U HB).2.2.2.2.2.size))
    have oj:hR.heap.size ≤ w3.heap.size:=(U xV).size
    obtain ⟨z0,z1,y0,y1,y2,y3,y4,y5,y6,y7⟩:=U xK w3 (U xV)
    have HZ0:=Y z0
    have HZ1:=Y z1
    have HY0:=Y y0
    have HY1:=Y y1
    have HY2:=Y y2
    have HY3:=Y y3
    have HY4:=Y y4
    have HY5:=Y y5
    have HY6:=Y y6
    have HY7:=Y y7
    go_wp2_with fail
    refine U xu _ _ ?_
    clear xu
    refine eH fun hj xu=>?_
    go_wp2_with fail
    refine U xu _ _ ?_
    clear xu
    refine eH fun hj xu=>?_
    clear z0 z1 y0 y1 y2 y3 y4 y5 y6 y7
    refine zj (RYBA (fun f=>{ tmps:=#[.agg #[H next,.slice a l.length A],.agg (yw 1 s ty li O ii pr L).toArray,yp w 0,I (w.heap.size + 1) 0,I (w.heap.size + 1 + 1) 0,.slice none 0 0,.slice a6 l.length c6,H 0,H pk,M,M,M,M,M,f 6,M,M,M,.slice (some (yq hR 0)) 0 0,yp w 1,.slice a l.length A,.slice a6 l.length c6,.agg #[H next,.slice a l.length A],.agg (yw 1 s ty li O ii pr L).toArray,H 0,H 0,.bool false,M,M,M,M,M,M,M,M,M,.slice a6 l.length c6,I (w.heap.size + 1) 5,H ii,H pk,I (w.heap.size + 1) 0,H 1,.bool false,.bool false,M,M,M,M,M,M,M,M,M,M,M,M,M,M,M,M,.bool false,.bool false,M,M,M,M,M,M,M,M,M,M,M,M,M,M,M,M,.bool false,.bool false,M,M,M,M,M,M,M,M,M,M,M,M,M,M,M,M,M,M,M,M,M,M,M,M,M,M,M,M,M,M,M,M,M,M,M,M,M,M,M,M,M,M,M,M,M,f 0,f 1,f 2,f 3,f 4,f 5,M,M,M,M,M,M,M,M,M,M,M,M,M,M,M,M,M,M,M,M,M,M,M,M,M,M,M,M,M,M,M,M,M,M,M,M,M,M,M,M],defers:=[] }) (CX [.agg (yw 1 s ty li O ii pr L).toArray,.agg (yw 1 s ty li O ii pr (cutB L)).toArray,yp w 0,H next,.agg (yu 1 1 s ty li O ii pr (cutB L) next 0 0 0 0).toArray,M,M] [] (w3.heap.size) 0 [] ([])) 5 (M) (fun f W=>∃ be,f 5 = .slice (some (J be 0)) 1 1∧ERow W w3.heap.size (.slice (some (J be 0)) 1 1) [⟨1,⟨1,s,ty,li,O,ii,pr,cutB L⟩,next,0,0,0,0⟩]∧yn hR W∧ORow W hR.heap.size (.slice a6 l.length c6) l) w3) (by kernel_rfl) ?_ ?_ ?_
    ·exact ⟨fun _=>M,rfl,ry_start (by decide),ryb_start rfl⟩
    rotate_left
    ·rintro x xm V i op ⟨f,rfl,X,hA⟩ xo hx Z xy Q
     have xz:=Y X
     have qH:=Y hA
     clear hA
     have xn:x[5]? = some false→∀ (p:Addr) u,w3.cell? p = some u→V.cell? p = some u:=fun hn p u hu=>((X.b hn).cell (yK w3 _ hu)).trans hu
     match i,Z with
     | 0,Z =>
      obtain rfl:=ya Z
      have hn:x[5]? = some false:=zy xo 12 0 5 (by kernel_rfl) hx (by simp) xy
      have y0:=xn hn (J (w.heap.size + 1) 0) _ (U HY0)
      have y1:=xn hn (J (w.heap.size + 1) 1) _ (U HY1)
      have y2:=xn hn (J (w.heap.size + 1) 2) _ (U HY2)
      have y3:=xn hn (J (w.heap.size + 1) 3) _ (U HY3)
      have y4:=xn hn (J (w.heap.size + 1) 4) _ (U HY4)
      have y5:=xn hn (J (w.heap.size + 1) 5) _ (U HY5)
      have y6:=xn hn (J (w.heap.size + 1) 6) _ (U HY6)
      have y7:=xn hn (J (w.heap.size + 1) 7) _ (U HY7)
      clear Q X xo xn
      rw [if_pos (by rfl)];unfold Oper.wp;go_simp
      exact ⟨upd f 0 (.agg (yw 1 s ty li O ii pr L).toArray),by simp [upd],zX (U xz) 0 _ hn (by decide) (zW rfl rfl),zZ _ (U qH) (by decide) (by decide)⟩
     | 1,Z =>
      obtain rfl:=ya Z
      have hn:x[5]? = some false:=zy xo 12 1 5 (by kernel_rfl) hx (by simp) xy
      have g0:f 0 = .agg (yw 1 s ty li O ii pr L).toArray:=zS (X.c hn 0 (ye Q 0 rfl)) rfl rfl
      clear Q X xo xn
      rw [if_pos (by rfl)];unfold Oper.wp;go_simp
      refine (U oA V).mono ?_
      rintro e w4 ⟨rfl,xC⟩
      exact ⟨upd f 1 (.agg (yw 1 s ty li O ii pr (cutB L)).toArray),by simp [upd,g0],zX (ry_grow (cx_monoB (by omega)) (U xz) hn xC) 1 _ hn (by decide) (zW rfl rfl),zZ _ (U qH) (by decide) (by decide)⟩
     | 2,Z =>
      obtain rfl:=ya Z
      have hn:x[5]? = some false:=zy xo 12 2 5 (by kernel_rfl) hx (by simp) xy
      clear Q X xo xn
      rw [if_pos (by rfl)];unfold Oper.wp;go_simp
      exact ⟨upd f 2 (yp w 0),by simp [upd],zX (U xz) 2 _ hn (by decide) (zW rfl rfl),zZ _ (U qH) (by decide) (by decide)⟩
     | 3,Z =>
      obtain rfl:=ya Z
      have hn:x[5]? = some false:=zy xo 12 3 5 (by kernel_rfl) hx (by simp) xy
      have g2:f 2 = yp w 0:=zS (X.c hn 2 (ye Q 2 rfl)) rfl rfl
      have z0:=xn hn (yq w 0) _ (U HZ0)
      clear Q X xo xn
      rw [if_pos (by rfl)];unfold Oper.wp;go_simp
      exact ⟨upd f 3 (H next),by simp [upd,g2],zX (U xz) 3 _ hn (by decide) (zW rfl rfl),zZ _ (U qH) (by decide) (by decide)⟩
     | 4,Z =>
      obtain rfl:=ya Z
      have hn:x[5]? = some false:=zy xo 12 4 5 (by kernel_rfl) hx (by simp) xy
      have g1:f 1 = .agg (yw 1 s ty li O ii pr (cutB L)).toArray:=zS (X.c hn 1 (ye Q 1 rfl)) rfl rfl
      have g3:f 3 = H next:=zS (X.c hn 3 (ye Q 3 rfl)) rfl rfl
      clear Q X xo xn
      rw [if_pos (by rfl)];unfold Oper.wp;go_simp
      exact ⟨upd f 4 (.agg (yu 1 1 s ty li O ii pr (cutB L) next 0 0 0 0).toArray),by simp [upd,g1,g3],zX (U xz) 4 _ hn (by decide) (zW rfl rfl),zZ _ (U qH) (by decide) (by decide)⟩
     | 5,Z =>
      obtain rfl:=ya Z
      have hn:x[5]? = some false:=xy
      have g4:f 4 = .agg (yu 1 1 s ty li O ii pr (cutB L) next 0 0 0 0).toArray:=zS (X.c hn 4 (ye Q 4 rfl)) rfl rfl
      have jo:x[6]? = some false:=zy xo 12 5 6 (by kernel_rfl) hx (by simp) xy
      have xT:=X.b hn
      have hbA:=eD V (eF (yu 1 1 s ty li O ii pr (cutB L) next 0 0 0 0).toArray 46)
      have HQQ:Hid (ERow (V.alloc (eF (yu 1 1 s ty li O ii pr (cutB L) next 0 0 0 0).toArray 46)) w3.heap.size (.slice (some (yq V 0)) 1 1) [⟨1,⟨1,s,ty,li,O,ii,pr,cutB L⟩,next,0,0,0,0⟩]∧yn hR (V.alloc (eF (yu 1 1 s ty li O ii pr (cutB L) next 0 0 0 0).toArray 46))∧ORow (V.alloc (eF (yu 1 1 s ty li O ii pr (cutB L) next 0 0 0 0).toArray 46)) hR.heap.size (.slice a6 l.length c6) l):=⟨eRow_one V ⟨1,⟨1,s,ty,li,O,ii,pr,cutB L⟩,next,0,0,0,0⟩ xT.size,(D (U xV) xT).trans (hbA.mono (yN (U xV).size xT.size)),zm (zm (U qQ) xT) hbA⟩
      clear Q X xo xn hbA xT
      rw [if_pos (by rfl)];unfold Oper.wp;go_simp
      exact ⟨upd f 5 (.slice (some (yq V 0)) 1 1),by simp [upd,g4],ry_write (U xz) hn _ ⟨V.heap.size,zp _ _ _,U HQQ⟩,ryb_write _ (U qH) jo⟩
     | 6,Z =>
      obtain rfl:=ya Z
      have hn:x[5]? = some true:=Q ⟨5,.data⟩ (by simp) rfl
      clear Q X xo xn
      rw [if_pos (by rfl)];unfold Oper.wp;go_simp
      exact ⟨upd f 6 (f 5),by simp [upd],ry_after (U xz) 6 _ hn (by decide) (fun h=>h),ryb_lay xy⟩
     | n + 7,Z=>simp at Z
    ·rintro x xm V ⟨f,rfl,X,hA⟩ hx xP
     have xp:=zR xP hx (by kernel_rfl)
     have e6:f 6 = f 5:=hA.1 (xp 6 (by simp))
     obtain ⟨be,e5,q1,q2,q3⟩:=X.m (xp 5 (by simp))
     rw [e5] at e6
     refine U xu _ _ ?_
     clear xu
     simp only [e5,e6]
     have HE4:=Y q1
     have uo:=Y q2
     have og:=Y q3
     have h3V:w3.heap.size ≤ V.heap.size:=by have:=(U HE4).lt be rfl; omega
     clear X hA xp xP hx q1 q2 q3 e5 e6
     generalize f 0 = tm0,f 1 = tm1,f 2 = tm2,f 3 = tm3,f 4 = tm4
     refine eH fun hj xu=>?_
     obtain ⟨z0,z1,y0,y1,y2,y3,y4,y5,y6,y7⟩:=U xK V (U uo)
     go_wp2_with fail
     refine (U uP a l.length A V).mono ?_
     rintro e w5 ⟨rfl,qp⟩
     have vZ:=Y (zI (U HE4) qp)
     have km:=Y (D (U uo) qp)
     have kP:=Y (zm (U og) qp)
     clear qp z0 z1 y0 y1 y2 y3 y4 y5 y6 y7
     go_wp2_with fail
     refine (U HMTT _ w5 (zN (U kP) (by omega))).mono ?_
     rintro e w6 ⟨v6',ve,rfl,hl6,he6,jA⟩
     have hOm:ORow w6 hR.heap.size v6' FL:=by
      rcases hl6 with ⟨G,E⟩ | h
      ·rw [G,show FL = l from E]; exact zm (U kP) jA
      ·exact zH h (U km).size
     clear hl6
     obtain ⟨am,cm,rfl⟩:=zT hOm
     obtain ⟨ae,ce,rfl⟩:=zT he6
     have vr:=eD w6 (eF (yv next s tt Fl li L).toArray 49)
     have qg:=Y (zI (zI (U vZ) jA) vr)
     have jn:=Y (zI he6 vr)
     have HO6:=Y (zm hOm vr)
     have kb:=Y ((U km).trans ((D jA vr).mono (U km).size))
     have HTK:Hid (World.rangeAt (w6.alloc (eF (yv next s tt Fl li L).toArray 49)) w6.heap.size 0 (yv next s tt Fl li L)):=zi w6 (yv next s tt Fl li L) _
     have HTX:Hid (∃ xr,(w6.alloc (eF (yv next s tt Fl li L).toArray 49)).heap[w6.heap.size]? = some (.cells xr 49 (0,0))):=⟨_,heap_alloc_new w6 _⟩
     have hlt6:w6.heap.size < (w6.alloc (eF (yv next s tt Fl li L).toArray 49)).heap.size:=by rw [zh]; omega
     have hX6:hR.heap.size ≤ w6.heap.size:=yN (U km).size jA.size
     have h35:w3.heap.size ≤ w5.heap.size:=by have:=(U vZ).lt be rfl; omega
     clear vr jA hOm he6
     go_wp2_with fail
     refine U xu _ _ ?_
     clear xu
     generalize (w6.alloc (eF (yv next s tt Fl li L).toArray 49)) = yb at qg jn HO6 kb HTK HTX hlt6 ⊢
     generalize w6.heap.size = tb at HTK HTX hlt6 hX6 ⊢
     have hX3:hR.heap.size ≤ w3.heap.size:=(U xV).size
     have hS3:w.heap.size + 1 + 1 < w3.heap.size:=yJ vS hX3
     refine wp_seq_k fun hj hK=>?_
     have vD:∀ (v14:Value) (W:World),ERow W w3.heap.size v14 (⟨1,⟨1,s,ty,li,O,ii,pr,cutB L⟩,next,0,0,0,0⟩ :: Ft)→ORow W hR.heap.size (.slice am FL.length cm) FL→W.rangeAt tb 0 (yv next s tt Fl li L)→yn hR W→tb < W.heap.size→w3.heap.size ≤ W.heap.size→hj { tmps:=#[.agg #[H next,.slice a l.length A],.agg (yw 1 s ty li O ii pr L).toArray,yp w 0,I (w.heap.size + 1) 0,I (w.heap.size + 1 + 1) 0,.slice none 0 0,.slice am FL.length cm,H 0,H pk,M,M,M,M,M,v14,I tb 0,.slice ae Ft.length ce,M,.slice (some (yq hR 0)) 0 0,yp w 1,.slice a l.length A,.slice a6 l.length c6,.agg #[H next,.slice a l.length A],.agg (yw 1 s ty li O ii pr L).toArray,H 0,H 0,.bool false,M,M,M,M,M,M,M,M,M,.slice a6 l.length c6,I (w.heap.size + 1) 5,H ii,H pk,I (w.heap.size + 1) 0,H 1,.bool false,.bool false,M,M,M,M,M,M,M,M,M,M,M,M,M,M,M,M,.bool false,.bool false,M,M,M,M,M,M,M,M,M,M,M,M,M,M,M,M,.bool false,.bool false,M,M,M,M,M,M,M,M,M,M,M,M,M,M,M,M,M,M,M,M,M,M,M,M,M,M,M,M,M,M,M,M,M,M,M,M,M,M,M,M,M,M,M,M,M,tm0,tm1,tm2,tm3,tm4,.slice (some (J be 0)) 1 1,.tuple #[.slice am FL.length cm,.agg (yv next s tt Fl li L).toArray,.slice ae Ft.length ce],.slice a6 l.length c6,.agg #[H next,.slice a l.length A],.agg (yw 1 s ty li O ii pr L).toArray,.agg (yv next s tt O li L).toArray,.tuple #[.slice am FL.length cm,.agg (yv next s tt Fl li L).toArray,.slice ae Ft.length ce],.slice am FL.length cm,.agg (yv next s tt Fl li L).toArray,.slice ae Ft.length ce,.slice (some (J be 0)) 1 1,.slice ae Ft.length ce,v14,M,M,M,M,M,M,M,M,M,M,M,M,M,M,M,M,M,M,M,M,M,M,M,M,M,M,M,M],defers:=[] } W:=by
      intro v14 W he Z pe jg px h3W0
      refine hK _ _ ?_
      clear hK HTX HTK qg jn HO6 kb hlt6 vZ kP km HE4 og uo HMTT uP oA
      have hlev:(⟨1,⟨1,s,ty,li,O,ii,pr,cutB L⟩,next,0,0,0,0⟩ :: Ft:List Ev).length ≤ 100:=by simp; omega
      generalize hevs:(⟨1,⟨1,s,ty,li,O,ii,pr,cutB L⟩,next,0,0,0,0⟩ :: Ft:List Ev) = evs at he hlev
      have HEVS:=Y hevs
      have vH:=Y he
      have jR:=Y Z
      have HTKV:=Y pe
      have xv:=Y jg
      clear he Z pe jg hevs
      have q0:W.cell? (J tb 0) = some (H next):=U HTKV 0 _ rfl
      have q3:W.cell? (J tb 3) = some (H Fl):=U HTKV 3 _ rfl
      refine eH fun K3 vz=>?_
      by_cases hFl:0 < Fl
      ·have oQ:yn W (W.alloc (eF (yu 5 0 0 0 0 0 0 0 ⟨#[]⟩ next 0 Fl 0 0).toArray 46)):=eD _ _
       have hy2:World.cell? (W.alloc (eF (yu 5 0 0 0 0 0 0 0 ⟨#[]⟩ next 0 Fl 0 0).toArray 46)) (J (w.heap.size + 1) 2) = some (H ty):=(U xK _ (D (U xv) oQ)).2.2.2.2.1
       have HEW:=Y (zI (U vH) oQ)
       have HLW:=Y (zm (U jR) oQ)
       have ow:=Y (D (U xv) oQ)
       have ku:=Y (zb (U HTKV) oQ px)
       have H3W:Hid (w3.heap.size ≤ (W.alloc (eF (yu 5 0 0 0 0 0 0 0 ⟨#[]⟩ next 0 Fl 0 0).toArray 46)).heap.size):=yN h3W0 oQ.size
       have uW:Hid (World.rangeAt (W.alloc (eF (yu 5 0 0 0 0 0 0 0 ⟨#[]⟩ next 0 Fl 0 0).toArray 46)) W.heap.size 0 (Ev.vs ⟨5,zCm,next,0,Fl,0,0⟩)):=zi W (Ev.vs ⟨5,zCm,next,0,Fl,0,0⟩) _
       have HXT:Hid (World.there (W.alloc (eF (yu 5 0 0 0 0 0 0 0 ⟨#[]⟩ next 0 Fl 0 0).toArray 46)) W.heap.size 0 14):=zv W (Ev.vs ⟨5,zCm,next,0,Fl,0,0⟩) _
       have htb7:tb < (W.alloc (eF (yu 5 0 0 0 0 0 0 0 ⟨#[]⟩ next 0 Fl 0 0).toArray 46)).heap.size:=yJ px oQ.size
       have hebX:hR.heap.size ≤ W.heap.size:=(U xv).size
       have heb7:W.heap.size < (W.alloc (eF (yu 5 0 0 0 0 0 0 0 ⟨#[]⟩ next 0 Fl 0 0).toArray 46)).heap.size:=by rw [zh]; omega
       have htbe:tb ≠ W.heap.size:=by omega
       have HXB:Hid (∃ xr,(W.alloc (eF (yu 5 0 0 0 0 0 0 0 ⟨#[]⟩ next 0 Fl 0 0).toArray 46)).heap[W.heap.size]? = some (.cells xr 46 (0,0))):=⟨_,heap_alloc_new W _⟩
       have hebE:Hid (∀ g,v14.ownBlock = some g→g ≠ W.heap.size):=fun g hg=>by have:=((U vH).lt g hg).2; omega
       have hsf:=sfl
       clear oQ
       go_wp2_with fail
       refine (cR ty _).mono ?_
       rintro e w' ⟨rfl,ul⟩
       rw [ul]
       clear ul w' q0 q3
       generalize (W.alloc (eF (yu 5 0 0 0 0 0 0 0 ⟨#[]⟩ next 0 Fl 0 0).toArray 46)) = W7 at HEW HLW ow ku H3W uW HXT HXB htb7 heb7 hy2 ⊢
       generalize W.heap.size = eb at uW HXT HXB hebX heb7 htbe hebE ⊢
       clear hy2
       cases qM:aO ty
       ·have x0:W7.cell? (J eb 0) = some (H 5):=U uW 0 _ rfl
        have x1:W7.cell? (J eb 1) = some (H 0):=U uW 1 _ rfl
        have x2:W7.cell? (J eb 2) = some (H 0):=U uW 2 _ rfl
        have x3:W7.cell? (J eb 3) = some (H 0):=U uW 3 _ rfl
        have x4:W7.cell? (J eb 4) = some (H 0):=U uW 4 _ rfl
        have x5:W7.cell? (J eb 5) = some (H 0):=U uW 5 _ rfl
        have x6:W7.cell? (J eb 6) = some (H 0):=U uW 6 _ rfl
        have x7:W7.cell? (J eb 7) = some (yj 0):=U uW 7 _ rfl
        have x8:W7.cell? (J eb 8) = some (yk ⟨#[]⟩):=U uW 8 _ rfl
        have x9:W7.cell? (J eb 9) = some (H next):=U uW 9 _ rfl
        have x10:W7.cell? (J eb 10) = some (H 0):=U uW 10 _ rfl
        have x11:W7.cell? (J eb 11) = some (H Fl):=U uW 11 _ rfl
        have x12:W7.cell? (J eb 12) = some (H 0):=U uW 12 _ rfl
        have x13:W7.cell? (J eb 13) = some (H 0):=U uW 13 _ rfl
        have HEA:=Y ((U HEW).alloc (eF (yu 5 0 0 0 0 0 0 0 ⟨#[]⟩ next 0 Fl 0 0).toArray 46))
        have qO:Hid (yn W7 (W7.alloc (eF (yu 5 0 0 0 0 0 0 0 ⟨#[]⟩ next 0 Fl 0 0).toArray 46))):=eD _ _
        have h3W:w3.heap.size ≤ W7.heap.size:=U H3W
        go_wp2_with (at_builtin; go_must (refine wpList_append_own _ rfl _ _ 38 rfl w3.heap.size 46 j0 _ 14 120 Tryz.underlying38 jj pY hy1 hy2 rfl (by decide) v14 evs.length (evs.flatMap Ev.vs) rfl (U HEA) (yq W7 0) 1 1 (Ev.vs ⟨5,zCm,next,0,Fl,0,0⟩) rfl rfl (cE W7 (Ev.vs ⟨5,zCm,next,0,Fl,0,0⟩) 46) (one_ev ⟨5,zCm,next,0,Fl,0,0⟩) (by unfold maxLen; omega) (by omega) (yN h3W (U qO).size) ?_); intro v5 w9 vy aE _; have HO9:=Y vy; have HG9:=Y aE; clear vy aE)
        have HE9:Hid (ERow w9 w3.heap.size v5 (evs ++ [⟨5,zCm,next,0,Fl,0,0⟩])):=by
         show w9.ownsRow _ _ _ _ (evs ++ [(⟨5,zCm,next,0,Fl,0,0⟩:Ev)]).length _
         rw [yP,List.flatMap_append]
         simpa using U HO9
        have HL9:=Y (World.ownsRow.kept (zm (U HLW) (U qO)) (U HG9) (zD (zm (U HLW) (U qO)) (U HEA) (by decide)))
        have kL:Hid (yn hR w9):=by
         have G:=(U ow).trans ((U qO).mono (U ow).size)
         exact G.grown (U HG9) G.size (fun g hg=>yN hX3 ((U HEA).lt g hg).1)
        clear HO9 HG9 HEA qO
        go_wp2_with fail
        refine U vz _ _ ?_
        clear vz
        obtain ⟨z0,z1,y0,y1,y2,y3,y4,y5,y6,y7⟩:=U xK w9 (U kL)
        have qm:=zg (U HB).2.2.2.2.1 (U kL) vS
        obtain ⟨p0,x0,f0⟩:=ze qm (j:=0) (by omega)
        obtain ⟨p1,x1,f1⟩:=ze qm (j:=1) (by omega)
        have hBW:=(U HB).2.2.2.2.2.trans ((U kL).mono (U HB).2.2.2.2.2.size)
        have HWF:Hid (yn w ((w9.setCell (J (w.heap.size + 1 + 1) 0) (H (next + 1))).setCell (J (w.heap.size + 1 + 1) 1) (.slice am FL.length cm))):=(hBW.setCell (p:=(J (w.heap.size + 1 + 1) 0)) (show w.heap.size ≤ w.heap.size + 1 + 1 by omega) _).setCell (p:=(J (w.heap.size + 1 + 1) 1)) (show w.heap.size ≤ w.heap.size + 1 + 1 by omega) _
        have HEF:Hid (ERow ((w9.setCell (J (w.heap.size + 1 + 1) 0) (H (next + 1))).setCell (J (w.heap.size + 1 + 1) 1) (.slice am FL.length cm)) w.heap.size v5 (evs ++ [⟨5,zCm,next,0,Fl,0,0⟩])):=zH (cU (cU (U HE9) hS3 0 _) hS3 1 _) (by omega)
        have HLF:Hid (ORow ((w9.setCell (J (w.heap.size + 1 + 1) 0) (H (next + 1))).setCell (J (w.heap.size + 1 + 1) 1) (.slice am FL.length cm)) w.heap.size (.slice am FL.length cm) (FL)):=zH (bP (bP (U HL9) vS 0 _) vS 1 _) hXw
        have oy:Hid (((w9.setCell (J (w.heap.size + 1 + 1) 0) (H (next + 1))).setCell (J (w.heap.size + 1 + 1) 1) (.slice am FL.length cm)).cell? (J (w.heap.size + 1 + 1) 0) = some (H (next + 1))):=(yL _ _ _ _ (zP (by decide))).trans (yM _ _ _ x0)
        have jd:Hid (((w9.setCell (J (w.heap.size + 1 + 1) 0) (H (next + 1))).setCell (J (w.heap.size + 1 + 1) 1) (.slice am FL.length cm)).cell? (J (w.heap.size + 1 + 1) 1) = some (.slice am FL.length cm)):=yM _ _ _ ((yL _ _ _ _ (zP (by decide))).trans x1)
        clear qm hBW y0 y1 y2 y3 y4 y5 y6 y7
        go_wp2_with fail
        have d0:=U oy
        have d1:=U jd
        try simp only [Exit.inBlock,Exit.then]
        refine bodyPost_ret (by simp [results,Tryz.results44,go_sem,d0,d1]; try rfl) rfl ?_
        obtain ⟨rfl,kz,ka⟩:=U uK
        rw [if_neg (fun h=>by rw [qM] at h; cases h.2)] at kz
        rw [if_pos hFl,if_neg (by rw [qM]; simp),U HEVS] at ka
        subst kz ka
        exact ⟨_,_,rfl,U HLF,U HEF,U HWF⟩
       ·have xe0:W7.cell? (J eb 0) = some (H 5):=U uW 0 _ rfl
        have fe0:W7.frozen? (J eb 0) = false:=(U HXT 0 (by omega)).2
        have HEW8:Hid (ERow (W7.setCell (J eb 0) (H 4)) w3.heap.size v14 evs):=zu (U HEW) (fun e=>U hebE eb e.symm rfl) 0 _
        have HLW8:Hid (ORow (W7.setCell (J eb 0) (H 4)) hR.heap.size (.slice am FL.length cm) FL):=zu (U HLW) (zl (U HLW) (U HXB) (by decide)) 0 _
        have HBW8:Hid (yn hR (W7.setCell (J eb 0) (H 4))):=(U ow).setCell (p:=(J eb 0)) hebX _
        have HTKW8:Hid (World.rangeAt (W7.setCell (J eb 0) (H 4)) tb 0 (yv next s tt Fl li L)):=fun j u K=>(yL _ _ _ _ (fun e=>htbe (congrArg Addr.block e).symm)).trans (U ku j u K)
        have HXR8:Hid (World.rangeAt (W7.setCell (J eb 0) (H 4)) eb 0 (Ev.vs ⟨4,zCm,next,0,Fl,0,0⟩)):=by have:=cH (j:=0) (u:=H 4) (U uW) (by rw [Ev.len]; decide); exact this
        have H3W8:Hid (w3.heap.size ≤ (W7.setCell (J eb 0) (H 4)).heap.size):=by have:=U H3W; simp only [World.setCell,Array.size_modify]; exact this
        have heb8:eb < (W7.setCell (J eb 0) (H 4)).heap.size:=by simp only [World.setCell,Array.size_modify]; exact heb7
        have htb8:tb < (W7.setCell (J eb 0) (H 4)).heap.size:=by simp only [World.setCell,Array.size_modify]; exact htb7
        clear HEW HLW ow ku uW H3W HXT HXB
        go_wp2_with fail
        clear xe0 fe0
        generalize (W7.setCell (J eb 0) (H 4)) = W8 at HEW8 HLW8 HBW8 HTKW8 HXR8 H3W8 heb8 htb8 ⊢
        have HLW:=Y (U HLW8)
        have ku:=Y (U HTKW8)
        refine zj (RZBA (fun f=>{ tmps:=#[.agg #[H next,.slice a l.length A],.agg (yw 1 s ty li O ii pr L).toArray,yp w 0,I (w.heap.size + 1) 0,I (w.heap.size + 1 + 1) 0,.slice none 0 0,f 6,H 0,H pk,M,M,M,M,M,v14,I tb 0,.slice ae Ft.length ce,I eb 0,.slice (some (yq hR 0)) 0 0,yp w 1,.slice a l.length A,.slice a6 l.length c6,.agg #[H next,.slice a l.length A],.agg (yw 1 s ty li O ii pr L).toArray,H 0,H 0,.bool false,M,M,M,M,M,M,M,M,M,.slice a6 l.length c6,I (w.heap.size + 1) 5,H ii,H pk,I (w.heap.size + 1) 0,H 1,.bool false,.bool false,M,M,M,M,M,M,M,M,M,M,M,M,M,M,M,M,.bool false,.bool false,M,M,M,M,M,M,M,M,M,M,M,M,M,M,M,M,.bool false,.bool false,M,M,M,M,M,M,M,M,M,M,M,M,M,M,M,M,M,M,M,M,M,M,M,M,M,M,M,M,M,M,M,M,M,M,M,M,M,M,M,M,M,M,M,M,M,tm0,tm1,tm2,tm3,tm4,.slice (some (J be 0)) 1 1,.tuple #[.slice am FL.length cm,.agg (yv next s tt Fl li L).toArray,.slice ae Ft.length ce],.slice a6 l.length c6,.agg #[H next,.slice a l.length A],.agg (yw 1 s ty li O ii pr L).toArray,.agg (yv next s tt O li L).toArray,.tuple #[.slice am FL.length cm,.agg (yv next s tt Fl li L).toArray,.slice ae Ft.length ce],.slice am FL.length cm,.agg (yv next s tt Fl li L).toArray,.slice ae Ft.length ce,.slice (some (J be 0)) 1 1,.slice ae Ft.length ce,v14,I tb 3,H Fl,.bool true,I tb 0,H next,I tb 3,H Fl,.agg (yu 5 0 0 0 0 0 0 0 ⟨#[]⟩ next 0 Fl 0 0).toArray,I (w.heap.size + 1) 2,H ty,.bool true,I eb 0,f 0,f 1,f 2,f 3,f 4,f 5,M,M,M,M,M,M,M,M,M,M],defers:=[] }) (CZ (.slice am FL.length cm) (.agg (yv next s tt Fl li L).toArray)) W8 FL ⟨next,s,tt,Fl,li,L⟩ (.slice am FL.length cm)) (by kernel_rfl) ?_ ?_ ?_
        ·exact ⟨fun j=>if j = 6 then .slice am FL.length cm else M,rfl,rz_start,ryb_start rfl⟩
        rotate_left
        ·rintro x xm V i op ⟨f,rfl,X,hA⟩ xo hx Z xy Q
         have xz:=Y X
         have qH:=Y hA
         clear hA
         have xn:∀ (p:Addr) u,W8.cell? p = some u→V.cell? p = some u:=fun p u hu=>(X.bel.cell (yK W8 _ hu)).trans hu
         match i,Z with
         | 0,Z =>
          obtain rfl:=ya Z
          clear Q X xo xn
          rw [if_pos (by rfl)];unfold Oper.wp;go_simp
          exact ⟨upd f 0 (.slice (some (yq V 0)) 0 0),by simp [upd],rz_0 (U xz) xy (fun _=>trivial),zZ _ (U qH) (by decide) (by decide)⟩
         | 1,Z =>
          obtain rfl:=ya Z
          have g6:f 6 = .slice am FL.length cm:=(U qH).2 (zy xo 12 1 6 (by kernel_rfl) hx (by simp) xy)
          clear Q X xo xn
          rw [if_pos (by rfl)];unfold Oper.wp;go_simp
          exact ⟨upd f 1 (.slice am FL.length cm),by simp [upd,g6],rz_val (U xz) 1 _ rfl (by decide) (by decide) (by decide) (by decide),zZ _ (U qH) (by decide) (by decide)⟩
         | 2,Z =>
          obtain rfl:=ya Z
          have k0:x[0]? = some true:=Q ⟨0,.data⟩ (by simp) rfl
          have g1:f 1 = .slice am FL.length cm:=X.c 1 (ye Q 1 rfl)
          have n5:x[5]? = some false:=zy xo 12 2 5 (by kernel_rfl) hx (by simp) xy
          have vI:=Y (X.m0 k0 xy)
          have xT:=X.bel
          have HRDV:Hid (∀ ad,am = some ad→∀ j u,(FL.flatMap Od.vs)[j]? = some u→V.cell? (ad.add j) = some u):=fun ad had=>by
           have h:=zN (zm (U HLW) xT) (by omega)
           rw [had] at h
           exact rd_src h
          have HSLV:=Y (oRow_sl (U HLW))
          clear Q X xo xn
          rw [if_pos (by rfl)]
          rcases U HSLV with h | ⟨ad,nn,cc,h⟩
          ·simp only [Value.slice.injEq] at h
           have hL:FL = []:=List.length_eq_zero_iff.1 h.2.1
           refine eC (.tmp 155) (.tmp 156) 26 rfl W8.heap.size 49 i0 6 Tryz.underlying26 uH (f 0) 0 [] rfl (U vI) (by show f 1 = _; rw [g1,h.1,h.2.1,h.2.2]) ?_
           exact ⟨upd f 2 (f 0),rfl,rz_2 (U xz) k0 xy n5 (fun _=>trivial) (by rw [hL]; exact U vI) (yR _ _),zZ _ (U qH) (by decide) (by decide)⟩
          ·simp only [Value.slice.injEq] at h
           refine wp_append_own V (.tmp 155) (.tmp 156) 26 rfl W8.heap.size 49 i0 _ 6 56 Tryz.underlying26 uH uF uJ uQ rfl (by decide) (f 0) 0 [] rfl (U vI) ad FL.length cm (FL.flatMap Od.vs) (by show f 1 = _; rw [g1,h.1]) (by rw [zK Od.len]) (U HRDV ad h.1) (bE FL) (by unfold maxLen; omega) (by omega) xT.size ?_
           intro v' w' xN uk _
           refine ⟨upd f 2 v',rfl,rz_2 (U xz) k0 xy n5 (fun _=>trivial) ?_ uk,zZ _ (U qH) (by decide) (by decide)⟩
           show w'.ownsRow _ _ _ _ FL.length _
           simpa using xN
         | 3,Z =>
          obtain rfl:=ya Z
          have t0:=xn (J tb 0) _ (U ku 0 _ rfl)
          have t1:=xn (J tb 1) _ (U ku 1 _ rfl)
          have t2:=xn (J tb 2) _ (U ku 2 _ rfl)
          have t3:=xn (J tb 3) _ (U ku 3 _ rfl)
          have t4:=xn (J tb 4) _ (U ku 4 _ rfl)
          have t5:=xn (J tb 5) _ (U ku 5 _ rfl)
          clear Q X xo xn
          rw [if_pos (by rfl)];unfold Oper.wp;go_simp
          exact ⟨upd f 3 (.agg (yv next s tt Fl li L).toArray),by simp [upd],rz_val (U xz) 3 _ rfl (by decide) (by decide) (by decide) (by decide),zZ _ (U qH) (by decide) (by decide)⟩
         | 4,Z =>
          obtain rfl:=ya Z
          have g3:f 3 = .agg (yv next s tt Fl li L).toArray:=X.c 3 (ye Q 3 rfl)
          have n5:x[5]? = some false:=zy xo 12 4 5 (by kernel_rfl) hx (by simp) xy
          clear Q X xo xn
          rw [if_pos (by rfl)];unfold Oper.wp;go_simp
          exact ⟨upd f 4 (.slice (some (yq V 0)) 1 1),by simp [upd,g3],rz_4 (U xz) xy n5 (fun _=>trivial),zZ _ (U qH) (by decide) (by decide)⟩
         | 5,Z =>
          obtain rfl:=ya Z
          have k2:x[2]? = some true:=Q ⟨2,.data⟩ (by simp) rfl
          obtain ⟨b4,g4,xW,xY,uC,-⟩:=X.m4 (ye Q 4 rfl) xy
          have vT:=Y (X.m2 k2 xy)
          have xT:=X.bel
          have h6:x[6]? = some false:=zy xo 12 5 6 (by kernel_rfl) hx (by simp) xy
          have uZ:Hid (∀ j u,(Od.vs ⟨next,s,tt,Fl,li,L⟩)[j]? = some u→V.cell? (((J b4 0):Addr).add j) = some u):=fun j u hu=>by
           have:=uC j u hu
           rw [Addr.add_mid]; exact this
          clear Q X xo uC xn
          rw [if_pos (by rfl)]
          refine wp_append_own V (.tmp 157) (.tmp 159) 26 rfl W8.heap.size 49 i0 _ 6 56 Tryz.underlying26 uH uF uJ uQ rfl (by decide) (f 2) FL.length (FL.flatMap Od.vs) rfl (U vT) (J b4 0) 1 1 (Od.vs ⟨next,s,tt,Fl,li,L⟩) (by show f 4 = _; exact g4) rfl (U uZ) (one_od ⟨next,s,tt,Fl,li,L⟩) (by unfold maxLen; omega) (by omega) xT.size ?_
          intro v' w' xN uk _
          refine ⟨upd f 5 v',rfl,rz_5 (U xz) k2 xy (fun _=>trivial) ?_ uk,ryb_write v' (U qH) h6⟩
          show w'.ownsRow _ _ _ _ (FL ++ [(⟨next,s,tt,Fl,li,L⟩:Od)]).length _
          rw [yP,List.flatMap_append]
          simpa using xN
         | 6,Z =>
          obtain rfl:=ya Z
          have k5:x[5]? = some true:=Q ⟨5,.data⟩ (by simp) rfl
          clear Q X xo xn
          rw [if_pos (by rfl)];unfold Oper.wp;go_simp
          exact ⟨upd f 6 (f 5),by simp [upd],rz_val (U xz) 6 _ trivial (by decide) (by decide) (by decide) (by decide),ryb_lay xy⟩
         | n + 7,Z=>simp at Z
        ·rintro x xm V ⟨f,rfl,X,hA⟩ hx xP
         have xp:=zR xP hx (by kernel_rfl)
         have e6:f 6 = f 5:=hA.1 (xp 6 (by simp))
         have hO5:=X.m5 (xp 5 (by simp))
         have xT:=X.bel
         obtain ⟨aL,cL,hvL⟩:=zT hO5
         rw [hvL] at hO5 e6
         generalize (FL ++ [(⟨next,s,tt,Fl,li,L⟩:Od)]).length = nL at hO5 e6
         simp only [e6]
         have HLW:=Y (zH hO5 (show hR.heap.size ≤ W8.heap.size from (U HBW8).size))
         have HEW:=Y (zI (U HEW8) xT)
         have ow:=Y (D (U HBW8) xT)
         have uW:=Y (zb (U HXR8) xT heb8)
         have H3W:Hid (w3.heap.size ≤ V.heap.size):=yN (U H3W8) xT.size
         clear X hA xp xP hx hO5 xT e6 hvL
         generalize f 0 = tn0,f 1 = tn1,f 2 = tn2,f 3 = tn3,f 4 = tn4,f 5 = tn5
         obtain ⟨x0,x1,x2,x3,x4,x5,x6,x7,x8,x9,x10,x11,x12,x13⟩:=yF (U uW)
         have HEA:=Y ((U HEW).alloc (eF (yu 4 0 0 0 0 0 0 0 ⟨#[]⟩ next 0 Fl 0 0).toArray 46))
         have qO:Hid (yn V (V.alloc (eF (yu 4 0 0 0 0 0 0 0 ⟨#[]⟩ next 0 Fl 0 0).toArray 46))):=eD _ _
         have h3W:w3.heap.size ≤ V.heap.size:=U H3W
         go_wp2_with (at_builtin; go_must (refine wpList_append_own _ rfl _ _ 38 rfl w3.heap.size 46 j0 _ 14 120 Tryz.underlying38 jj pY hy1 hy2 rfl (by decide) v14 evs.length (evs.flatMap Ev.vs) rfl (U HEA) (yq V 0) 1 1 (Ev.vs ⟨4,zCm,next,0,Fl,0,0⟩) rfl rfl (cE V (Ev.vs ⟨4,zCm,next,0,Fl,0,0⟩) 46) (one_ev ⟨4,zCm,next,0,Fl,0,0⟩) (by unfold maxLen; omega) (by omega) (yN h3W (U qO).size) ?_); intro v5 w9 vy aE _; have HO9:=Y vy; have HG9:=Y aE; clear vy aE)
         have HE9:Hid (ERow w9 w3.heap.size v5 (evs ++ [⟨4,zCm,next,0,Fl,0,0⟩])):=by
          show w9.ownsRow _ _ _ _ (evs ++ [(⟨4,zCm,next,0,Fl,0,0⟩:Ev)]).length _
          rw [yP,List.flatMap_append]
          simpa using U HO9
         have HL9:=Y (World.ownsRow.kept (zm (U HLW) (U qO)) (U HG9) (zD (zm (U HLW) (U qO)) (U HEA) (by decide)))
         have kL:Hid (yn hR w9):=by
          have G:=(U ow).trans ((U qO).mono (U ow).size)
          exact G.grown (U HG9) G.size (fun g hg=>yN hX3 ((U HEA).lt g hg).1)
         clear HO9 HG9 HEA qO
         go_wp2_with fail
         refine U vz _ _ ?_
         clear vz
         obtain ⟨z0,z1,y0,y1,y2,y3,y4,y5,y6,y7⟩:=U xK w9 (U kL)
         have qm:=zg (U HB).2.2.2.2.1 (U kL) vS
         obtain ⟨p0,x0,f0⟩:=ze qm (j:=0) (by omega)
         obtain ⟨p1,x1,f1⟩:=ze qm (j:=1) (by omega)
         have hBW:=(U HB).2.2.2.2.2.trans ((U kL).mono (U HB).2.2.2.2.2.size)
         have HWF:Hid (yn w ((w9.setCell (J (w.heap.size + 1 + 1) 0) (H (next + 1))).setCell (J (w.heap.size + 1 + 1) 1) (.slice aL nL cL))):=(hBW.setCell (p:=(J (w.heap.size + 1 + 1) 0)) (show w.heap.size ≤ w.heap.size + 1 + 1 by omega) _).setCell (p:=(J (w.heap.size + 1 + 1) 1)) (show w.heap.size ≤ w.heap.size + 1 + 1 by omega) _
         have HEF:Hid (ERow ((w9.setCell (J (w.heap.size + 1 + 1) 0) (H (next + 1))).setCell (J (w.heap.size + 1 + 1) 1) (.slice aL nL cL)) w.heap.size v5 (evs ++ [⟨4,zCm,next,0,Fl,0,0⟩])):=zH (cU (cU (U HE9) hS3 0 _) hS3 1 _) (by omega)
         have HLF:Hid (ORow ((w9.setCell (J (w.heap.size + 1 + 1) 0) (H (next + 1))).setCell (J (w.heap.size + 1 + 1) 1) (.slice aL nL cL)) w.heap.size (.slice aL nL cL) (FL ++ [⟨next,s,tt,Fl,li,L⟩])):=zH (bP (bP (U HL9) vS 0 _) vS 1 _) hXw
         have oy:Hid (((w9.setCell (J (w.heap.size + 1 + 1) 0) (H (next + 1))).setCell (J (w.heap.size + 1 + 1) 1) (.slice aL nL cL)).cell? (J (w.heap.size + 1 + 1) 0) = some (H (next + 1))):=(yL _ _ _ _ (zP (by decide))).trans (yM _ _ _ x0)
         have jd:Hid (((w9.setCell (J (w.heap.size + 1 + 1) 0) (H (next + 1))).setCell (J (w.heap.size + 1 + 1) 1) (.slice aL nL cL)).cell? (J (w.heap.size + 1 + 1) 1) = some (.slice aL nL cL)):=yM _ _ _ ((yL _ _ _ _ (zP (by decide))).trans x1)
         clear qm hBW y0 y1 y2 y3 y4 y5 y6 y7
         go_wp2_with fail
         have d0:=U oy
         have d1:=U jd
         try simp only [Exit.inBlock,Exit.then]
         refine bodyPost_ret (by simp [results,Tryz.results44,go_sem,d0,d1]; try rfl) rfl ?_
         obtain ⟨rfl,kz,ka⟩:=U uK
         rw [if_pos ⟨hFl,qM⟩] at kz
         rw [if_pos hFl,if_pos qM,U HEVS] at ka
         subst kz ka
         exact ⟨_,_,rfl,U HLF,U HEF,U HWF⟩
      ·go_wp2_with fail
       refine U vz _ _ ?_
       clear vz
       obtain ⟨z0,z1,y0,y1,y2,y3,y4,y5,y6,y7⟩:=U xK W (U xv)
       have qm:=zg (U HB).2.2.2.2.1 (U xv) vS
       obtain ⟨p0,x0,f0⟩:=ze qm (j:=0) (by omega)
       obtain ⟨p1,x1,f1⟩:=ze qm (j:=1) (by omega)
       have hBW:=(U HB).2.2.2.2.2.trans ((U xv).mono (U HB).2.2.2.2.2.size)
       have HWF:Hid (yn w ((W.setCell (J (w.heap.size + 1 + 1) 0) (H (next + 1))).setCell (J (w.heap.size + 1 + 1) 1) (.slice am FL.length cm))):=(hBW.setCell (p:=(J (w.heap.size + 1 + 1) 0)) (show w.heap.size ≤ w.heap.size + 1 + 1 by omega) _).setCell (p:=(J (w.heap.size + 1 + 1) 1)) (show w.heap.size ≤ w.heap.size + 1 + 1 by omega) _
       have HEF:Hid (ERow ((W.setCell (J (w.heap.size + 1 + 1) 0) (H (next + 1))).setCell (J (w.heap.size + 1 + 1) 1) (.slice am FL.length cm)) w.heap.size v14 (evs)):=zH (cU (cU (U vH) hS3 0 _) hS3 1 _) (by omega)
       have HLF:Hid (ORow ((W.setCell (J (w.heap.size + 1 + 1) 0) (H (next + 1))).setCell (J (w.heap.size + 1 + 1) 1) (.slice am FL.length cm)) w.heap.size (.slice am FL.length cm) (FL)):=zH (bP (bP (U jR) vS 0 _) vS 1 _) hXw
       have oy:Hid (((W.setCell (J (w.heap.size + 1 + 1) 0) (H (next + 1))).setCell (J (w.heap.size + 1 + 1) 1) (.slice am FL.length cm)).cell? (J (w.heap.size + 1 + 1) 0) = some (H (next + 1))):=(yL _ _ _ _ (zP (by decide))).trans (yM _ _ _ x0)
       have jd:Hid (((W.setCell (J (w.heap.size + 1 + 1) 0) (H (next + 1))).setCell (J (w.heap.size + 1 + 1) 1) (.slice am FL.length cm)).cell? (J (w.heap.size + 1 + 1) 1) = some (.slice am FL.length cm)):=yM _ _ _ ((yL _ _ _ _ (zP (by decide))).trans x1)
       clear qm hBW y0 y1 y2 y3 y4 y5 y6 y7
       go_wp2_with fail
       have d0:=U oy
       have d1:=U jd
       try simp only [Exit.inBlock,Exit.then]
       refine bodyPost_ret (by simp [results,Tryz.results44,go_sem,d0,d1]; try rfl) rfl ?_
       obtain ⟨rfl,kz,ka⟩:=U uK
       rw [if_neg (fun h=>by have:=h.1; omega)] at kz
       rw [if_neg (by omega),List.append_nil,U HEVS] at ka
       subst kz ka
       exact ⟨_,_,rfl,U HLF,U HEF,U HWF⟩
     have HT2':=Y vD
     clear vD hK
     have h3Y:w3.heap.size ≤ yb.heap.size:=by have:=(U qg).lt be rfl; omega
     rcases (U jn).2 with ⟨hv,h0⟩ | ⟨gt,ct,cut,hv,_⟩
     ·simp only [Value.slice.injEq] at hv
      obtain ⟨rfl,pS,rfl⟩:=hv
      obtain rfl:=List.length_eq_zero_iff.1 pS
      go_wp2_with (at_builtin; go_must (refine wpList_append_own_none rfl _ _ 38 rfl w3.heap.size 46 j0 14 Tryz.underlying38 jj (.slice (some (J be 0)) 1 1) 1 _ rfl (U qg) rfl ?_))
      exact U HT2' _ _ (U qg) (U HO6) (U HTK) (U kb) hlt6 h3Y
     ·simp only [Value.slice.injEq] at hv
      obtain ⟨rfl,-,rfl⟩:=hv
      have uZ:=Y (row_src (U jn))
      go_wp2_with (at_builtin; go_must (refine wpList_append_own _ rfl _ _ 38 rfl w3.heap.size 46 j0 _ 14 120 Tryz.underlying38 jj pY hy1 hy2 rfl (by decide) (.slice (some (J be 0)) 1 1) 1 _ rfl (U qg) (J gt 0) Ft.length ce (Ft.flatMap Ev.vs) rfl (by rw [zK Ev.len]) (U uZ) (one_allE Ft) (by unfold maxLen; omega) (by omega) h3Y ?_); intro v14 w7 hown7 hg7 _; have HO7:=Y hown7; have pD:=Y hg7; clear hown7 hg7)
      have HE7:Hid (ERow w7 w3.heap.size v14 (⟨1,⟨1,s,ty,li,O,ii,pr,cutB L⟩,next,0,0,0,0⟩ :: Ft)):=by
       show w7.ownsRow _ _ _ _ (⟨1,⟨1,s,ty,li,O,ii,pr,cutB L⟩,next,0,0,0,0⟩ :: Ft:List Ev).length _
       have h:=U HO7
       rw [List.length_cons,Nat.add_comm]
       simpa using h
      exact U HT2' _ _ (U HE7) (World.ownsRow.kept (U HO6) (U pD) (zD (U HO6) (U qg) (by decide))) (fun j u K=>(yQ (a:=(J tb (0 + j))) ((U pD).block tb hlt6 (zl (U qg) (U HTX) (by decide)))).trans (U HTK j u K)) ((U kb).grown (U pD) (U kb).size (fun g hg=>yN hX3 ((U qg).lt g hg).1)) (yJ hlt6 (U pD).size) (yN h3Y (U pD).size)
   ·exact absurd (U uB).2 (by decide)
   ·exact absurd (U uB).2 (by decide)
   ·exact absurd (U uB).2 (by decide)
  ·have oa:=vf
   have qM:(rr == 0) = false:=by rw [xd]; exact vf
   have uK:Hid (sN = next∧sL = l∧sE = [⟨2,⟨kk,s,ty,li,O,ii,pr,cutB L⟩,0,0,0,0,rr⟩]):=⟨by rw [U vj,if_neg (fun h=>vf h.1)],by rw [U uE,if_neg vf],by rw [U vi,if_neg vf]⟩
   skip
   exact absurd (U uB).1 oa
 rcases U vP with hs | ⟨ad,nn,cc,hs⟩
 ·simp only [Value.slice.injEq] at hs
  obtain ⟨rfl,pS,rfl⟩:=hs
  obtain rfl:=List.length_eq_zero_iff.1 pS
  obtain ⟨z0,z1,y0,y1,y2,y3,y4,y5,y6,y7⟩:=U xK hR (Below.refl _ _)
  have vI:=Y (World.ownsRow_made (base:=hR.heap.size) (e:=49) (size:=6) hR #[] 0 qt (by decide) rfl)
  have hzX:World.cell? (hR.alloc (eF #[] 49)) (yq w 1) = some (.slice none 0 0):=(U xK _ (eD _ _)).2.1
  have kQ:=Y HT
  clear HT hK
  go_wp2_with (at_builtin; go_must (refine wpList_append_own_none rfl _ _ 26 rfl hR.heap.size 49 i0 6 Tryz.underlying26 uH (.slice (some (yq hR 0)) 0 0) 0 [] rfl (U vI) rfl ?_))
  exact U kQ _ _ _ (U vI) (eD _ _)
 ·simp only [Value.slice.injEq] at hs
  obtain ⟨rfl,rfl,rfl⟩:=hs
  obtain ⟨z0,z1,y0,y1,y2,y3,y4,y5,y6,y7⟩:=U xK hR (Below.refl _ _)
  have uN:Hid (yn hR (hR.alloc (eF #[] 49))):=eD _ _
  have vI:=Y (World.ownsRow_made (base:=hR.heap.size) (e:=49) (size:=6) hR #[] 0 qt (by decide) rfl)
  have hzX:World.cell? (hR.alloc (eF #[] 49)) (yq w 1) = some (.slice (some ad) l.length A):=(U xK _ (U uN)).2.1
  have uZ:Hid (∀ j u,(l.flatMap Od.vs)[j]? = some u→World.cell? (hR.alloc (eF #[] 49)) (ad.add j) = some u):=rd_src (zn (U HR) ((U HB).2.2.2.2.2.trans ((U uN).mono (U HB).2.2.2.2.2.size)) qt)
  have kQ:=Y HT
  clear HT hK
  go_wp2_with (at_builtin; go_must (refine wpList_append_own _ rfl _ _ 26 rfl hR.heap.size 49 i0 _ 6 56 Tryz.underlying26 uH uF uJ uQ rfl (by decide) (.slice (some (yq hR 0)) 0 0) 0 [] rfl (U vI) ad l.length A (l.flatMap Od.vs) rfl (by rw [zK Od.len]) (U uZ) (bE l) (by unfold maxLen; omega) (by omega) (U uN).size ?_); intro v1 w1 uY qq _; have vp:=Y uY; have kA:=Y qq; clear uY qq)
  have aB:Hid (ORow w1 hR.heap.size v1 l):=by
   show w1.ownsRow _ _ _ _ l.length _
   simpa using U vp
  obtain ⟨a6,c6,hv⟩:=zT (U aB)
  subst hv
  exact U kQ _ _ _ (U aB) ((U uN).grown (U kA) (U uN).size (fun k hk=>((U vI).lt k hk).1))
end Go.Proofs.YtbakanofkghmiaaGreat
