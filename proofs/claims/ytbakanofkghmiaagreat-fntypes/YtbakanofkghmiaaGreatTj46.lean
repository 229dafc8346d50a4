/-
  A command done on a book, by the model: proved by walking the function.
-/
import Derived.Test.YtbakanofkghmiaaGreatTj42
set_option linter.unusedVariables false
set_option maxHeartbeats 6400000
set_option maxRecDepth 100000
namespace Go.Proofs.YtbakanofkghmiaaGreat
open Go.RowKit
theorem l04Step_a (next:Int) (vb:Value) (l:List Od) (c:Cm) (w:World) (qO:refR next l c = 0∧c.k = 1) (hr:RdR Od.vs 6 w vb l) (hs:SlOk vb) (hg:GoodL l) (uD:∀ x ∈ l,x.side = 1 ∨ x.side = 2) (h0:0 ≤ next) (Q:next ≤ 1000000) (ht:c.g.size ≤ maxLen) :
  Calls Tryz.prog 44 #[.agg #[H next,vb],cmV c] w fun e w'=>∃ vq vg,e = yl (.tuple #[.agg #[H (stN next l c),vq],vg])∧ORow w' w.heap.size vq (stL next l c)∧ERow w' w.heap.size vg (stE next l c)∧ym w w':=by
 obtain ⟨i0,uz,uA,uF,uR⟩:=info_parts Tryz.infoOrder
 obtain ⟨j0,jn,jz,kJ,hy2⟩:=info_parts infoEv
 have HR:=Y hr
 have vH:=Y hs
 have HG:=Y hg
 have qF:=Y ht
 have vF:=hg.len
 have uB:Hid (0 ≤ next∧next ≤ 1000000):=⟨h0,Q⟩
 have uK:=Y (fun (W:World) hW=>cD next vb l c W hW hs hg uD ht)
 rw [ref_eq] at uK
 have HK:=Y (@bN next l c)
 have HQ:=Y (@bC next l c)
 have qA:=Y (@ref_id next l c)
 have jt:=Y (@ref_newS next l c)
 have ux:=Y qO
 clear qO
 have uZ:Hid (stN next l c = if refR next l c = 0∧c.k = 1 then next + 1 else next):=rfl
 have uy:=Y (stL.eq_1 next l c)
 have uY:=Y (stE.eq_1 next l c)
 have kW:=Y (fun W=>cC c W ht)
 have qE:=Y (fun (a:Option Addr) (n E:Nat) (W:World)=>bW next a n E c W)
 have jR:=Y (fun (v:Value) (W:World) hr hs hp jf qW=>bV v l c next W hr hg hs hp jf qW)
 obtain ⟨a,E,rfl,vA,hc⟩:=hr
 obtain ⟨kk,s,ty,li,O,ii,pr,K⟩:=c
 generalize stN next l ⟨kk,s,ty,li,O,ii,pr,K⟩ = sN at uZ ⊢
 generalize stL next l ⟨kk,s,ty,li,O,ii,pr,K⟩ = sL at uy ⊢
 generalize stE next l ⟨kk,s,ty,li,O,ii,pr,K⟩ = sE at uY ⊢
 generalize refR next l ⟨kk,s,ty,li,O,ii,pr,K⟩ = rr at uK uZ uy uY HK HQ qA jt ux
 unfold cmV at uK qE ⊢
 simp only at uK uZ uy uY HK HQ qA jt kW qE jR qF ux ⊢
 have HB:=Y (box3 w [H next,.slice a l.length E] (yv kk s ty li O ii pr K) [H 0,.slice none 0 0] 28 43 28)
 clear hs hg uD h0 Q ht hc vA
 go_enter Tryz.func44,Tryz.ntmps44
 refine ds fun tg xq=>?_
 go_wp2_with fail
 refine U xq _ _ ?_
 clear xq
 change Hid ((((w.alloc (D #[H next,.slice a l.length E] 28)).alloc (D (yv kk s ty li O ii pr K).toArray 43)).alloc (D #[H 0,.slice none 0 0] 28)).heap.size = w.heap.size + 3∧World.rangeAt (((w.alloc (D #[H next,.slice a l.length E] 28)).alloc (D (yv kk s ty li O ii pr K).toArray 43)).alloc (D #[H 0,.slice none 0 0] 28)) w.heap.size 0 [H next,.slice a l.length E]∧World.rangeAt (((w.alloc (D #[H next,.slice a l.length E] 28)).alloc (D (yv kk s ty li O ii pr K).toArray 43)).alloc (D #[H 0,.slice none 0 0] 28)) (w.heap.size + 1) 0 (yv kk s ty li O ii pr K)∧World.rangeAt (((w.alloc (D #[H next,.slice a l.length E] 28)).alloc (D (yv kk s ty li O ii pr K).toArray 43)).alloc (D #[H 0,.slice none 0 0] 28)) (w.heap.size + 1 + 1) 0 [H 0,.slice none 0 0]∧World.there (((w.alloc (D #[H next,.slice a l.length E] 28)).alloc (D (yv kk s ty li O ii pr K).toArray 43)).alloc (D #[H 0,.slice none 0 0] 28)) (w.heap.size + 1 + 1) 0 2∧ym w (((w.alloc (D #[H next,.slice a l.length E] 28)).alloc (D (yv kk s ty li O ii pr K).toArray 43)).alloc (D #[H 0,.slice none 0 0] 28))) at HB
 generalize (((w.alloc (D #[H next,.slice a l.length E] 28)).alloc (D (yv kk s ty li O ii pr K).toArray 43)).alloc (D #[H 0,.slice none 0 0] 28)) = hD at HB ⊢
 have xI:Hid (∀ W:World,ym hD W→W.cell? (yp w 0) = some (H next)∧W.cell? (yp w 1) = some (.slice a l.length E)∧W.cell? (J (w.heap.size + 1) 0) = some (H kk)∧W.cell? (J (w.heap.size + 1) 1) = some (H s)∧W.cell? (J (w.heap.size + 1) 2) = some (H ty)∧W.cell? (J (w.heap.size + 1) 3) = some (H li)∧W.cell? (J (w.heap.size + 1) 4) = some (H O)∧W.cell? (J (w.heap.size + 1) 5) = some (H ii)∧W.cell? (J (w.heap.size + 1) 6) = some (yi pr)∧W.cell? (J (w.heap.size + 1) 7) = some (yj K)):=fun W hW =>
  have p:=zb (U HB).2.1 hW (by have:=(U HB).1; omega)
  have q:=zb (U HB).2.2.1 hW (by have:=(U HB).1; omega)
  ⟨p 0 _ rfl,p 1 _ rfl,q 0 _ rfl,q 1 _ rfl,q 2 _ rfl,q 3 _ rfl,q 4 _ rfl,q 5 _ rfl,q 6 _ rfl,q 7 _ rfl⟩
 have vK:w.heap.size + 1 + 1 < hD.heap.size:=by have:=(U HB).1; omega
 refine wp_seq_k fun tg hK=>?_
 have HT:∀ (a6:Option Addr) (c6:Nat) (w1:World),ORow w1 hD.heap.size (.slice a6 l.length c6) l→ym hD w1→tg { tmps:=#[.agg #[H next,.slice a l.length E],.agg (yv kk s ty li O ii pr K).toArray,yn w 0,I (w.heap.size + 1) 0,I (w.heap.size + 1 + 1) 0,.slice none 0 0,.slice a6 l.length c6,M,M,M,M,M,M,M,M,M,M,M,.slice (some (yp hD 0)) 0 0,yn w 1,.slice a l.length E,.slice a6 l.length c6,M,M,M,M,M,M,M,M,M,M,M,M,M,M,M,M,M,M,M,M,M,M,M,M,M,M,M,M,M,M,M,M,M,M,M,M,M,M,M,M,M,M,M,M,M,M,M,M,M,M,M,M,M,M,M,M,M,M,M,M,M,M,M,M,M,M,M,M,M,M,M,M,M,M,M,M,M,M,M,M,M,M,M,M,M,M,M,M,M,M,M,M,M,M,M,M,M,M,M,M,M,M,M,M,M,M,M,M,M,M,M,M,M,M,M,M,M,M,M,M,M,M,M,M,M,M,M,M,M,M,M,M,M,M,M,M,M,M,M,M,M,M,M,M,M,M,M,M,M],defers:=[] } w1:=by
  intro a6 c6 w1 vR xS
  refine hK _ _ ?_
  clear hK
  have vh:=Y vR
  have xT:=Y xS
  clear vR xS
  obtain ⟨z0,z1,y0,y1,y2,y3,y4,y5,y6,y7⟩:=U xI w1 (U xT)
  refine ds fun tg xq=>?_
  go_wp2_with fail
  refine (U uK w1 (zl (U HR) ((U HB).2.2.2.2.2.trans ((U xT).mono (U HB).2.2.2.2.2.size)) qt)).mono ?_
  rintro e w2 ⟨rfl,xU⟩
  have vL:=Y (zk (U vh) xU)
  have xC:=Y (dq (U xT) xU)
  clear z0 z1 y0 y1 y2 y3 y4 y5 y6 y7 xU vh
  obtain ⟨z0,z1,y0,y1,y2,y3,y4,y5,y6,y7⟩:=U xI w2 (U xC)
  have vN:=Y (ze (U HB).2.2.2.2.1 (U xC) vK)
  have oa:w.heap.size + 1 + 1 < w2.heap.size:=yH vK (U xC).size
  have xJ:=Y ((U HB).2.2.2.2.2.trans ((U xC).mono (U HB).2.2.2.2.2.size))
  have hXw:w.heap.size ≤ hD.heap.size:=by omega
  have hX2:hD.heap.size ≤ w2.heap.size:=(U xC).size
  have kP:=hX2
  by_cases uX:rr = 0
  ·subst uX
   have pl:=U HK rfl
   rcases pl with rfl | rfl | rfl | rfl
   ·have hq:=U HQ rfl rfl
    obtain ⟨hss,hpp,htt,hii⟩:=U jt rfl rfl
    have HMTT:=Y (fun (v:Value) (W:World) hr=>U jR v W hr hss hpp (by omega) hq.2)
    have oC:=Y (ba (c:=⟨1,s,ty,li,O,ii,pr,K⟩) (id:=next) 21 l O [] (U HG) (by omega) hq.2)
    have HMF:=Y (cx (c:=⟨1,s,ty,li,O,ii,pr,K⟩) (id:=next) 21 l O [])
    have uE:Hid (sN = next + 1∧sL = (if 0 < (matL ⟨1,s,ty,li,O,ii,pr,K⟩ next 21 l O []).2.1∧pP ty = true then (matL ⟨1,s,ty,li,O,ii,pr,K⟩ next 21 l O []).1 ++ [⟨next,s,tkS pr,(matL ⟨1,s,ty,li,O,ii,pr,K⟩ next 21 l O []).2.1,li,K⟩] else (matL ⟨1,s,ty,li,O,ii,pr,K⟩ next 21 l O []).1)∧sE = ⟨1,⟨1,s,ty,li,O,ii,pr,cutB K⟩,next,0,0,0,0⟩ :: (matL ⟨1,s,ty,li,O,ii,pr,K⟩ next 21 l O []).2.2 ++ (if 0 < (matL ⟨1,s,ty,li,O,ii,pr,K⟩ next 21 l O []).2.1 then [⟨if pP ty = true then 4 else 5,zCm,next,0,(matL ⟨1,s,ty,li,O,ii,pr,K⟩ next 21 l O []).2.1,0,0⟩] else [])):=⟨by rw [U uZ,if_pos ⟨rfl,rfl⟩],by rw [U uy,if_pos rfl,if_pos rfl]; exact acc_l hpp,by rw [U uY,if_pos rfl,if_pos rfl,accE,cutB_tag htt,hii]⟩
    generalize matL ⟨1,s,ty,li,O,ii,pr,K⟩ next 21 l O [] = hb at uE HMTT oC HMF
    obtain ⟨FL,Fl,Ft⟩:=hb
    simp only at uE HMTT oC HMF
    generalize tkS pr = tt at uE HMTT qE
    have hFL:=(U oC).1.len
    have hFt:Ft.length ≤ 21:=by simpa using U HMF
    obtain ⟨hn0,hn1⟩:=U uB
    clear uZ uy uY HQ qA HK jt jR hpp htt hii hss oC HMF
    go_wp2_with fail
    refine U xq _ _ ?_
    clear xq
    refine ds fun tg xq=>?_
    go_wp2_with fail
    refine (bX _ l ii w2 (zK (U vL) (by omega))).mono ?_
    generalize plc l ii = pk
    rintro e w3 ⟨rfl,uC⟩
    have qD:=Y (zk (U vL) uC)
    have xW:=Y (dq (U xC) uC)
    clear uC z0 z1 y0 y1 y2 y3 y4 y5 y6 y7 vN xJ oa kP
    have vN:=Y (ze (U HB).2.2.2.2.1 (U xW) vK)
    have oa:w.heap.size + 1 + 1 < w3.heap.size:=yH vK (U xW).size
    have xJ:=Y ((U HB).2.2.2.2.2.trans ((U xW).mono (U HB).2.2.2.2.2.size))
    have kP:hD.heap.size ≤ w3.heap.size:=(U xW).size
    obtain ⟨z0,z1,y0,y1,y2,y3,y4,y5,y6,y7⟩:=U xI w3 (U xW)
    have HZ0:=Y z0
    have HZ1:=Y z1
    have HY0:=Y y0
    have HY1:=Y y1
    have HY2:=Y y2
    have HY3:=Y y3
    have HY4:=Y y4
    have HY5:=Y y5
    have HY6:=Y y6
    have HY7:=Y y7
    go_wp2_with fail
    refine U xq _ _ ?_
    clear xq
    refine ds fun tg xq=>?_
    go_wp2_with fail
    refine U xq _ _ ?_
    clear xq
    refine ds fun tg xq=>?_
    clear z0 z1 y0 y1 y2 y3 y4 y5 y6 y7
    refine zh (RYBA (fun f=>{ tmps:=#[.agg #[H next,.slice a l.length E],.agg (yv 1 s ty li O ii pr K).toArray,yn w 0,I (w.heap.size + 1) 0,I (w.heap.size + 1 + 1) 0,.slice none 0 0,.slice a6 l.length c6,H 0,H pk,M,M,M,M,M,f 6,M,M,M,.slice (some (yp hD 0)) 0 0,yn w 1,.slice a l.length E,.slice a6 l.length c6,.agg #[H next,.slice a l.length E],.agg (yv 1 s ty li O ii pr K).toArray,H 0,H 0,.bool false,M,M,M,M,M,M,M,M,M,.slice a6 l.length c6,I (w.heap.size + 1) 5,H ii,H pk,I (w.heap.size + 1) 0,H 1,.bool false,.bool false,M,M,M,M,M,M,M,M,M,M,M,M,M,M,M,M,.bool false,.bool false,M,M,M,M,M,M,M,M,M,M,M,M,M,M,M,M,.bool false,.bool false,M,M,M,M,M,M,M,M,M,M,M,M,M,M,M,M,M,M,M,M,M,M,M,M,M,M,M,M,M,M,M,M,M,M,M,M,M,M,M,M,M,M,M,M,M,f 0,f 1,f 2,f 3,f 4,f 5,M,M,M,M,M,M,M,M,M,M,M,M,M,M,M,M,M,M,M,M,M,M,M,M,M,M,M,M,M,M,M,M,M,M,M,M,M,M,M,M],defers:=[] }) (CX [.agg (yv 1 s ty li O ii pr K).toArray,.agg (yv 1 s ty li O ii pr (cutB K)).toArray,yn w 0,H next,.agg (yt 1 1 s ty li O ii pr (cutB K) next 0 0 0 0).toArray,M,M] [] (w3.heap.size) 0 [] ([])) 5 (M) (fun f W=>∃ be,f 5 = .slice (some (J be 0)) 1 1∧ERow W w3.heap.size (.slice (some (J be 0)) 1 1) [⟨1,⟨1,s,ty,li,O,ii,pr,cutB K⟩,next,0,0,0,0⟩]∧ym hD W∧ORow W hD.heap.size (.slice a6 l.length c6) l) w3) (by kernel_rfl) ?_ ?_ ?_
    ·exact ⟨fun _=>M,rfl,ry_start (by decide),ryb_start rfl⟩
    rotate_left
    ·rintro x hR V i op ⟨f,rfl,A,hA⟩ L hx Z xu G
     have xw:=Y A
     have qu:=Y hA
     clear hA
     have xk:x[5]? = some false→∀ (p:Addr) u,w3.cell? p = some u→V.cell? p = some u:=fun hn p u hu=>((A.b hn).cell (yI w3 _ hu)).trans hu
     match i,Z with
     | 0,Z =>
      obtain rfl:=ya Z
      have hn:x[5]? = some false:=zv L 12 0 5 (by kernel_rfl) hx (by simp) xu
      have y0:=xk hn (J (w.heap.size + 1) 0) _ (U HY0)
      have y1:=xk hn (J (w.heap.size + 1) 1) _ (U HY1)
      have y2:=xk hn (J (w.heap.size + 1) 2) _ (U HY2)
      have y3:=xk hn (J (w.heap.size + 1) 3) _ (U HY3)
      have y4:=xk hn (J (w.heap.size + 1) 4) _ (U HY4)
      have y5:=xk hn (J (w.heap.size + 1) 5) _ (U HY5)
      have y6:=xk hn (J (w.heap.size + 1) 6) _ (U HY6)
      have y7:=xk hn (J (w.heap.size + 1) 7) _ (U HY7)
      clear G A L xk
      rw [if_pos (by rfl)];unfold Oper.wp;go_simp
      exact ⟨upd f 0 (.agg (yv 1 s ty li O ii pr K).toArray),by simp [upd],zU (U xw) 0 _ hn (by decide) (zT rfl rfl),zV _ (U qu) (by decide) (by decide)⟩
     | 1,Z =>
      obtain rfl:=ya Z
      have hn:x[5]? = some false:=zv L 12 1 5 (by kernel_rfl) hx (by simp) xu
      have g0:f 0 = .agg (yv 1 s ty li O ii pr K).toArray:=zP (A.c hn 0 (yd G 0 rfl)) rfl rfl
      clear G A L xk
      rw [if_pos (by rfl)];unfold Oper.wp;go_simp
      refine (U kW V).mono ?_
      rintro e w4 ⟨rfl,xz⟩
      exact ⟨upd f 1 (.agg (yv 1 s ty li O ii pr (cutB K)).toArray),by simp [upd,g0],zU (ry_grow (cx_monoB (by omega)) (U xw) hn xz) 1 _ hn (by decide) (zT rfl rfl),zV _ (U qu) (by decide) (by decide)⟩
     | 2,Z =>
      obtain rfl:=ya Z
      have hn:x[5]? = some false:=zv L 12 2 5 (by kernel_rfl) hx (by simp) xu
      clear G A L xk
      rw [if_pos (by rfl)];unfold Oper.wp;go_simp
      exact ⟨upd f 2 (yn w 0),by simp [upd],zU (U xw) 2 _ hn (by decide) (zT rfl rfl),zV _ (U qu) (by decide) (by decide)⟩
     | 3,Z =>
      obtain rfl:=ya Z
      have hn:x[5]? = some false:=zv L 12 3 5 (by kernel_rfl) hx (by simp) xu
      have g2:f 2 = yn w 0:=zP (A.c hn 2 (yd G 2 rfl)) rfl rfl
      have z0:=xk hn (yp w 0) _ (U HZ0)
      clear G A L xk
      rw [if_pos (by rfl)];unfold Oper.wp;go_simp
      exact ⟨upd f 3 (H next),by simp [upd,g2],zU (U xw) 3 _ hn (by decide) (zT rfl rfl),zV _ (U qu) (by decide) (by decide)⟩
     | 4,Z =>
      obtain rfl:=ya Z
      have hn:x[5]? = some false:=zv L 12 4 5 (by kernel_rfl) hx (by simp) xu
      have g1:f 1 = .agg (yv 1 s ty li O ii pr (cutB K)).toArray:=zP (A.c hn 1 (yd G 1 rfl)) rfl rfl
      have g3:f 3 = H next:=zP (A.c hn 3 (yd G 3 rfl)) rfl rfl
      clear G A L xk
      rw [if_pos (by rfl)];unfold Oper.wp;go_simp
      exact ⟨upd f 4 (.agg (yt 1 1 s ty li O ii pr (cutB K) next 0 0 0 0).toArray),by simp [upd,g1,g3],zU (U xw) 4 _ hn (by decide) (zT rfl rfl),zV _ (U qu) (by decide) (by decide)⟩
     | 5,Z =>
      obtain rfl:=ya Z
      have hn:x[5]? = some false:=xu
      have g4:f 4 = .agg (yt 1 1 s ty li O ii pr (cutB K) next 0 0 0 0).toArray:=zP (A.c hn 4 (yd G 4 rfl)) rfl rfl
      have ja:x[6]? = some false:=zv L 12 5 6 (by kernel_rfl) hx (by simp) xu
      have xR:=A.b hn
      have hbA:=dm V (D (yt 1 1 s ty li O ii pr (cutB K) next 0 0 0 0).toArray 46)
      have HQQ:Hid (ERow (V.alloc (D (yt 1 1 s ty li O ii pr (cutB K) next 0 0 0 0).toArray 46)) w3.heap.size (.slice (some (yp V 0)) 1 1) [⟨1,⟨1,s,ty,li,O,ii,pr,cutB K⟩,next,0,0,0,0⟩]∧ym hD (V.alloc (D (yt 1 1 s ty li O ii pr (cutB K) next 0 0 0 0).toArray 46))∧ORow (V.alloc (D (yt 1 1 s ty li O ii pr (cutB K) next 0 0 0 0).toArray 46)) hD.heap.size (.slice a6 l.length c6) l):=⟨eRow_one V ⟨1,⟨1,s,ty,li,O,ii,pr,cutB K⟩,next,0,0,0,0⟩ xR.size,(dq (U xW) xR).trans (hbA.mono (yL (U xW).size xR.size)),zk (zk (U qD) xR) hbA⟩
      clear G A L xk hbA xR
      rw [if_pos (by rfl)];unfold Oper.wp;go_simp
      exact ⟨upd f 5 (.slice (some (yp V 0)) 1 1),by simp [upd,g4],ry_write (U xw) hn _ ⟨V.heap.size,zn _ _ _,U HQQ⟩,ryb_write _ (U qu) ja⟩
     | 6,Z =>
      obtain rfl:=ya Z
      have hn:x[5]? = some true:=G ⟨5,.data⟩ (by simp) rfl
      clear G A L xk
      rw [if_pos (by rfl)];unfold Oper.wp;go_simp
      exact ⟨upd f 6 (f 5),by simp [upd],ry_after (U xw) 6 _ hn (by decide) (fun h=>h),ryb_lay xu⟩
     | n + 7,Z=>simp at Z
    ·rintro x hR V ⟨f,rfl,A,hA⟩ hx xM
     have xn:=zO xM hx (by kernel_rfl)
     have e6:f 6 = f 5:=hA.1 (xn 6 (by simp))
     obtain ⟨be,e5,q1,q2,q3⟩:=A.m (xn 5 (by simp))
     rw [e5] at e6
     refine U xq _ _ ?_
     clear xq
     simp only [e5,e6]
     have HE4:=Y q1
     have uk:=Y q2
     have kM:=Y q3
     have h3V:w3.heap.size ≤ V.heap.size:=by have:=(U HE4).lt be rfl; omega
     clear A hA xn xM hx q1 q2 q3 e5 e6
     generalize f 0 = tm0,f 1 = tm1,f 2 = tm2,f 3 = tm3,f 4 = tm4
     refine ds fun tg xq=>?_
     obtain ⟨z0,z1,y0,y1,y2,y3,y4,y5,y6,y7⟩:=U xI V (U uk)
     go_wp2_with fail
     refine (U qE a l.length E V).mono ?_
     rintro e w5 ⟨rfl,qc⟩
     have vU:=Y (zG (U HE4) qc)
     have kf:=Y (dq (U uk) qc)
     have oS:=Y (zk (U kM) qc)
     clear qc z0 z1 y0 y1 y2 y3 y4 y5 y6 y7
     go_wp2_with fail
     refine (U HMTT _ w5 (zK (U oS) (by omega))).mono ?_
     rintro e w6 ⟨v6',ve,rfl,hl6,he6,ka⟩
     have hOm:ORow w6 hD.heap.size v6' FL:=by
      rcases hl6 with ⟨Q,N⟩ | h
      ·rw [Q,show FL = l from N]; exact zk (U oS) ka
      ·exact zF h (U kf).size
     clear hl6
     obtain ⟨am,cm,rfl⟩:=zQ hOm
     obtain ⟨ae,ce,rfl⟩:=zQ he6
     have vi:=dm w6 (D (yu next s tt Fl li K).toArray 49)
     have vY:=Y (zG (zG (U vU) ka) vi)
     have qZ:=Y (zG he6 vi)
     have HO6:=Y (zk hOm vi)
     have kg:=Y ((U kf).trans ((dq ka vi).mono (U kf).size))
     have HTK:Hid (World.rangeAt (w6.alloc (D (yu next s tt Fl li K).toArray 49)) w6.heap.size 0 (yu next s tt Fl li K)):=zg w6 (yu next s tt Fl li K) _
     have HTX:Hid (∃ xp,(w6.alloc (D (yu next s tt Fl li K).toArray 49)).heap[w6.heap.size]? = some (.cells xp 49 (0,0))):=⟨_,heap_alloc_new w6 _⟩
     have hlt6:w6.heap.size < (w6.alloc (D (yu next s tt Fl li K).toArray 49)).heap.size:=by rw [zf]; omega
     have hX6:hD.heap.size ≤ w6.heap.size:=yL (U kf).size ka.size
     have h35:w3.heap.size ≤ w5.heap.size:=by have:=(U vU).lt be rfl; omega
     clear vi ka hOm he6
     go_wp2_with fail
     refine U xq _ _ ?_
     clear xq
     generalize (w6.alloc (D (yu next s tt Fl li K).toArray 49)) = yb at vY qZ HO6 kg HTK HTX hlt6 ⊢
     generalize w6.heap.size = tb at HTK HTX hlt6 hX6 ⊢
     have hX3:hD.heap.size ≤ w3.heap.size:=(U xW).size
     have hS3:w.heap.size + 1 + 1 < w3.heap.size:=yH vK hX3
     refine wp_seq_k fun tg hK=>?_
     have vx:∀ (v14:Value) (W:World),ERow W w3.heap.size v14 (⟨1,⟨1,s,ty,li,O,ii,pr,cutB K⟩,next,0,0,0,0⟩ :: Ft)→ORow W hD.heap.size (.slice am FL.length cm) FL→W.rangeAt tb 0 (yu next s tt Fl li K)→ym hD W→tb < W.heap.size→w3.heap.size ≤ W.heap.size→tg { tmps:=#[.agg #[H next,.slice a l.length E],.agg (yv 1 s ty li O ii pr K).toArray,yn w 0,I (w.heap.size + 1) 0,I (w.heap.size + 1 + 1) 0,.slice none 0 0,.slice am FL.length cm,H 0,H pk,M,M,M,M,M,v14,I tb 0,.slice ae Ft.length ce,M,.slice (some (yp hD 0)) 0 0,yn w 1,.slice a l.length E,.slice a6 l.length c6,.agg #[H next,.slice a l.length E],.agg (yv 1 s ty li O ii pr K).toArray,H 0,H 0,.bool false,M,M,M,M,M,M,M,M,M,.slice a6 l.length c6,I (w.heap.size + 1) 5,H ii,H pk,I (w.heap.size + 1) 0,H 1,.bool false,.bool false,M,M,M,M,M,M,M,M,M,M,M,M,M,M,M,M,.bool false,.bool false,M,M,M,M,M,M,M,M,M,M,M,M,M,M,M,M,.bool false,.bool false,M,M,M,M,M,M,M,M,M,M,M,M,M,M,M,M,M,M,M,M,M,M,M,M,M,M,M,M,M,M,M,M,M,M,M,M,M,M,M,M,M,M,M,M,M,tm0,tm1,tm2,tm3,tm4,.slice (some (J be 0)) 1 1,.tuple #[.slice am FL.length cm,.agg (yu next s tt Fl li K).toArray,.slice ae Ft.length ce],.slice a6 l.length c6,.agg #[H next,.slice a l.length E],.agg (yv 1 s ty li O ii pr K).toArray,.agg (yu next s tt O li K).toArray,.tuple #[.slice am FL.length cm,.agg (yu next s tt Fl li K).toArray,.slice ae Ft.length ce],.slice am FL.length cm,.agg (yu next s tt Fl li K).toArray,.slice ae Ft.length ce,.slice (some (J be 0)) 1 1,.slice ae Ft.length ce,v14,M,M,M,M,M,M,M,M,M,M,M,M,M,M,M,M,M,M,M,M,M,M,M,M,M,M,M,M],defers:=[] } W:=by
      intro v14 W he Z oy qT htb h3W0
      refine hK _ _ ?_
      clear hK HTX HTK vY qZ HO6 kg hlt6 vU oS kf HE4 kM uk HMTT qE kW
      have hlev:(⟨1,⟨1,s,ty,li,O,ii,pr,cutB K⟩,next,0,0,0,0⟩ :: Ft:List Ev).length ≤ 100:=by simp; omega
      generalize hevs:(⟨1,⟨1,s,ty,li,O,ii,pr,cutB K⟩,next,0,0,0,0⟩ :: Ft:List Ev) = evs at he hlev
      have HEVS:=Y hevs
      have vv:=Y he
      have jF:=Y Z
      have HTKV:=Y oy
      have xr:=Y qT
      clear he Z oy qT hevs
      have q0:W.cell? (J tb 0) = some (H next):=U HTKV 0 _ rfl
      have q3:W.cell? (J tb 3) = some (H Fl):=U HTKV 3 _ rfl
      refine ds fun K3 vp=>?_
      by_cases hFl:0 < Fl
      ·have oe:ym W (W.alloc (D (yt 5 0 0 0 0 0 0 0 ⟨#[]⟩ next 0 Fl 0 0).toArray 46)):=dm _ _
       have hy2:World.cell? (W.alloc (D (yt 5 0 0 0 0 0 0 0 ⟨#[]⟩ next 0 Fl 0 0).toArray 46)) (J (w.heap.size + 1) 2) = some (H ty):=(U xI _ (dq (U xr) oe)).2.2.2.2.1
       have HEW:=Y (zG (U vv) oe)
       have HLW:=Y (zk (U jF) oe)
       have kT:=Y (dq (U xr) oe)
       have jX:=Y (zb (U HTKV) oe htb)
       have H3W:Hid (w3.heap.size ≤ (W.alloc (D (yt 5 0 0 0 0 0 0 0 ⟨#[]⟩ next 0 Fl 0 0).toArray 46)).heap.size):=yL h3W0 oe.size
       have qf:Hid (World.rangeAt (W.alloc (D (yt 5 0 0 0 0 0 0 0 ⟨#[]⟩ next 0 Fl 0 0).toArray 46)) W.heap.size 0 (Ev.vs ⟨5,zCm,next,0,Fl,0,0⟩)):=zg W (Ev.vs ⟨5,zCm,next,0,Fl,0,0⟩) _
       have HXT:Hid (World.there (W.alloc (D (yt 5 0 0 0 0 0 0 0 ⟨#[]⟩ next 0 Fl 0 0).toArray 46)) W.heap.size 0 14):=zt W (Ev.vs ⟨5,zCm,next,0,Fl,0,0⟩) _
       have htb7:tb < (W.alloc (D (yt 5 0 0 0 0 0 0 0 ⟨#[]⟩ next 0 Fl 0 0).toArray 46)).heap.size:=yH htb oe.size
       have hebX:hD.heap.size ≤ W.heap.size:=(U xr).size
       have heb7:W.heap.size < (W.alloc (D (yt 5 0 0 0 0 0 0 0 ⟨#[]⟩ next 0 Fl 0 0).toArray 46)).heap.size:=by rw [zf]; omega
       have htbe:tb ≠ W.heap.size:=by omega
       have HXB:Hid (∃ xp,(W.alloc (D (yt 5 0 0 0 0 0 0 0 ⟨#[]⟩ next 0 Fl 0 0).toArray 46)).heap[W.heap.size]? = some (.cells xp 46 (0,0))):=⟨_,heap_alloc_new W _⟩
       have hebE:Hid (∀ g,v14.ownBlock = some g→g ≠ W.heap.size):=fun g hg=>by have:=((U vv).lt g hg).2; omega
       have hsf:=sfl
       clear oe
       go_wp2_with fail
       refine (br ty _).mono ?_
       rintro e w' ⟨rfl,ui⟩
       rw [ui]
       clear ui w' q0 q3
       generalize (W.alloc (D (yt 5 0 0 0 0 0 0 0 ⟨#[]⟩ next 0 Fl 0 0).toArray 46)) = W7 at HEW HLW kT jX H3W qf HXT HXB htb7 heb7 hy2 ⊢
       generalize W.heap.size = eb at qf HXT HXB hebX heb7 htbe hebE ⊢
       clear hy2
       cases qz:pP ty
       ·have x0:W7.cell? (J eb 0) = some (H 5):=U qf 0 _ rfl
        have x1:W7.cell? (J eb 1) = some (H 0):=U qf 1 _ rfl
        have x2:W7.cell? (J eb 2) = some (H 0):=U qf 2 _ rfl
        have x3:W7.cell? (J eb 3) = some (H 0):=U qf 3 _ rfl
        have x4:W7.cell? (J eb 4) = some (H 0):=U qf 4 _ rfl
        have x5:W7.cell? (J eb 5) = some (H 0):=U qf 5 _ rfl
        have x6:W7.cell? (J eb 6) = some (H 0):=U qf 6 _ rfl
        have x7:W7.cell? (J eb 7) = some (yi 0):=U qf 7 _ rfl
        have x8:W7.cell? (J eb 8) = some (yj ⟨#[]⟩):=U qf 8 _ rfl
        have x9:W7.cell? (J eb 9) = some (H next):=U qf 9 _ rfl
        have x10:W7.cell? (J eb 10) = some (H 0):=U qf 10 _ rfl
        have x11:W7.cell? (J eb 11) = some (H Fl):=U qf 11 _ rfl
        have x12:W7.cell? (J eb 12) = some (H 0):=U qf 12 _ rfl
        have x13:W7.cell? (J eb 13) = some (H 0):=U qf 13 _ rfl
        have HEA:=Y ((U HEW).alloc (D (yt 5 0 0 0 0 0 0 0 ⟨#[]⟩ next 0 Fl 0 0).toArray 46))
        have qB:Hid (ym W7 (W7.alloc (D (yt 5 0 0 0 0 0 0 0 ⟨#[]⟩ next 0 Fl 0 0).toArray 46))):=dm _ _
        have h3W:w3.heap.size ≤ W7.heap.size:=U H3W
        go_wp2_with (at_builtin; go_must (refine wpList_append_own _ rfl _ _ 38 rfl w3.heap.size 46 j0 _ 14 120 Tryz.underlying38 jn jz kJ hy2 rfl (by decide) v14 evs.length (evs.flatMap Ev.vs) rfl (U HEA) (yp W7 0) 1 1 (Ev.vs ⟨5,zCm,next,0,Fl,0,0⟩) rfl rfl (aY W7 (Ev.vs ⟨5,zCm,next,0,Fl,0,0⟩) 46) (one_ev ⟨5,zCm,next,0,Fl,0,0⟩) (by unfold maxLen; omega) (by omega) (yL h3W (U qB).size) ?_); intro v5 w9 vn pJ _; have HO9:=Y vn; have HG9:=Y pJ; clear vn pJ)
        have HE9:Hid (ERow w9 w3.heap.size v5 (evs ++ [⟨5,zCm,next,0,Fl,0,0⟩])):=by
         show w9.ownsRow _ _ _ _ (evs ++ [(⟨5,zCm,next,0,Fl,0,0⟩:Ev)]).length _
         rw [yN,List.flatMap_append]
         simpa using U HO9
        have HL9:=Y (World.ownsRow.kept (zk (U HLW) (U qB)) (U HG9) (zA (zk (U HLW) (U qB)) (U HEA) (by decide)))
        have ky:Hid (ym hD w9):=by
         have Q:=(U kT).trans ((U qB).mono (U kT).size)
         exact Q.grown (U HG9) Q.size (fun g hg=>yL hX3 ((U HEA).lt g hg).1)
        clear HO9 HG9 HEA qB
        go_wp2_with fail
        refine U vp _ _ ?_
        clear vp
        obtain ⟨z0,z1,y0,y1,y2,y3,y4,y5,y6,y7⟩:=U xI w9 (U ky)
        have qa:=ze (U HB).2.2.2.2.1 (U ky) vK
        obtain ⟨p0,x0,f0⟩:=zc qa (j:=0) (by omega)
        obtain ⟨p1,x1,f1⟩:=zc qa (j:=1) (by omega)
        have hBW:=(U HB).2.2.2.2.2.trans ((U ky).mono (U HB).2.2.2.2.2.size)
        have HWF:Hid (ym w ((w9.setCell (J (w.heap.size + 1 + 1) 0) (H (next + 1))).setCell (J (w.heap.size + 1 + 1) 1) (.slice am FL.length cm))):=(hBW.setCell (p:=(J (w.heap.size + 1 + 1) 0)) (show w.heap.size ≤ w.heap.size + 1 + 1 by omega) _).setCell (p:=(J (w.heap.size + 1 + 1) 1)) (show w.heap.size ≤ w.heap.size + 1 + 1 by omega) _
        have HEF:Hid (ERow ((w9.setCell (J (w.heap.size + 1 + 1) 0) (H (next + 1))).setCell (J (w.heap.size + 1 + 1) 1) (.slice am FL.length cm)) w.heap.size v5 (evs ++ [⟨5,zCm,next,0,Fl,0,0⟩])):=zF (bz (bz (U HE9) hS3 0 _) hS3 1 _) (by omega)
        have HLF:Hid (ORow ((w9.setCell (J (w.heap.size + 1 + 1) 0) (H (next + 1))).setCell (J (w.heap.size + 1 + 1) 1) (.slice am FL.length cm)) w.heap.size (.slice am FL.length cm) (FL)):=zF (aJ (aJ (U HL9) vK 0 _) vK 1 _) hXw
        have kU:Hid (((w9.setCell (J (w.heap.size + 1 + 1) 0) (H (next + 1))).setCell (J (w.heap.size + 1 + 1) 1) (.slice am FL.length cm)).cell? (J (w.heap.size + 1 + 1) 0) = some (H (next + 1))):=(yJ _ _ _ _ (zN (by decide))).trans (yK _ _ _ x0)
        have qP:Hid (((w9.setCell (J (w.heap.size + 1 + 1) 0) (H (next + 1))).setCell (J (w.heap.size + 1 + 1) 1) (.slice am FL.length cm)).cell? (J (w.heap.size + 1 + 1) 1) = some (.slice am FL.length cm)):=yK _ _ _ ((yJ _ _ _ _ (zN (by decide))).trans x1)
        clear qa hBW y0 y1 y2 y3 y4 y5 y6 y7
        go_wp2_with fail
        have d0:=U kU
        have d1:=U qP
        try simp only [Exit.inBlock,Exit.then]
        refine bodyPost_ret (by simp [results,Tryz.results44,go_sem,d0,d1]; try rfl) rfl ?_
        obtain ⟨rfl,ke,jP⟩:=U uE
        rw [if_neg (fun h=>by rw [qz] at h; cases h.2)] at ke
        rw [if_pos hFl,if_neg (by rw [qz]; simp),U HEVS] at jP
        subst ke jP
        exact ⟨_,_,rfl,U HLF,U HEF,U HWF⟩
       ·have xe0:W7.cell? (J eb 0) = some (H 5):=U qf 0 _ rfl
        have fe0:W7.frozen? (J eb 0) = false:=(U HXT 0 (by omega)).2
        have HEW8:Hid (ERow (W7.setCell (J eb 0) (H 4)) w3.heap.size v14 evs):=zr (U HEW) (fun e=>U hebE eb e.symm rfl) 0 _
        have HLW8:Hid (ORow (W7.setCell (J eb 0) (H 4)) hD.heap.size (.slice am FL.length cm) FL):=zr (U HLW) (zj (U HLW) (U HXB) (by decide)) 0 _
        have HBW8:Hid (ym hD (W7.setCell (J eb 0) (H 4))):=(U kT).setCell (p:=(J eb 0)) hebX _
        have HTKW8:Hid (World.rangeAt (W7.setCell (J eb 0) (H 4)) tb 0 (yu next s tt Fl li K)):=fun j u R=>(yJ _ _ _ _ (fun e=>htbe (congrArg Addr.block e).symm)).trans (U jX j u R)
        have HXR8:Hid (World.rangeAt (W7.setCell (J eb 0) (H 4)) eb 0 (Ev.vs ⟨4,zCm,next,0,Fl,0,0⟩)):=by have:=bc (j:=0) (u:=H 4) (U qf) (by rw [Ev.len]; decide); exact this
        have H3W8:Hid (w3.heap.size ≤ (W7.setCell (J eb 0) (H 4)).heap.size):=by have:=U H3W; simp only [World.setCell,Array.size_modify]; exact this
        have heb8:eb < (W7.setCell (J eb 0) (H 4)).heap.size:=by simp only [World.setCell,Array.size_modify]; exact heb7
        have htb8:tb < (W7.setCell (J eb 0) (H 4)).heap.size:=by simp only [World.setCell,Array.size_modify]; exact htb7
        clear HEW HLW kT jX qf H3W HXT HXB
        go_wp2_with fail
        clear xe0 fe0
        generalize (W7.setCell (J eb 0) (H 4)) = W8 at HEW8 HLW8 HBW8 HTKW8 HXR8 H3W8 heb8 htb8 ⊢
        have HLW:=Y (U HLW8)
        have jX:=Y (U HTKW8)
        refine zh (RZBA (fun f=>{ tmps:=#[.agg #[H next,.slice a l.length E],.agg (yv 1 s ty li O ii pr K).toArray,yn w 0,I (w.heap.size + 1) 0,I (w.heap.size + 1 + 1) 0,.slice none 0 0,f 6,H 0,H pk,M,M,M,M,M,v14,I tb 0,.slice ae Ft.length ce,I eb 0,.slice (some (yp hD 0)) 0 0,yn w 1,.slice a l.length E,.slice a6 l.length c6,.agg #[H next,.slice a l.length E],.agg (yv 1 s ty li O ii pr K).toArray,H 0,H 0,.bool false,M,M,M,M,M,M,M,M,M,.slice a6 l.length c6,I (w.heap.size + 1) 5,H ii,H pk,I (w.heap.size + 1) 0,H 1,.bool false,.bool false,M,M,M,M,M,M,M,M,M,M,M,M,M,M,M,M,.bool false,.bool false,M,M,M,M,M,M,M,M,M,M,M,M,M,M,M,M,.bool false,.bool false,M,M,M,M,M,M,M,M,M,M,M,M,M,M,M,M,M,M,M,M,M,M,M,M,M,M,M,M,M,M,M,M,M,M,M,M,M,M,M,M,M,M,M,M,M,tm0,tm1,tm2,tm3,tm4,.slice (some (J be 0)) 1 1,.tuple #[.slice am FL.length cm,.agg (yu next s tt Fl li K).toArray,.slice ae Ft.length ce],.slice a6 l.length c6,.agg #[H next,.slice a l.length E],.agg (yv 1 s ty li O ii pr K).toArray,.agg (yu next s tt O li K).toArray,.tuple #[.slice am FL.length cm,.agg (yu next s tt Fl li K).toArray,.slice ae Ft.length ce],.slice am FL.length cm,.agg (yu next s tt Fl li K).toArray,.slice ae Ft.length ce,.slice (some (J be 0)) 1 1,.slice ae Ft.length ce,v14,I tb 3,H Fl,.bool true,I tb 0,H next,I tb 3,H Fl,.agg (yt 5 0 0 0 0 0 0 0 ⟨#[]⟩ next 0 Fl 0 0).toArray,I (w.heap.size + 1) 2,H ty,.bool true,I eb 0,f 0,f 1,f 2,f 3,f 4,f 5,M,M,M,M,M,M,M,M,M,M],defers:=[] }) (CZ (.slice am FL.length cm) (.agg (yu next s tt Fl li K).toArray)) W8 FL ⟨next,s,tt,Fl,li,K⟩ (.slice am FL.length cm)) (by kernel_rfl) ?_ ?_ ?_
        ·exact ⟨fun j=>if j = 6 then .slice am FL.length cm else M,rfl,rz_start,ryb_start rfl⟩
        rotate_left
        ·rintro x hR V i op ⟨f,rfl,A,hA⟩ L hx Z xu G
         have xw:=Y A
         have qu:=Y hA
         clear hA
         have xk:∀ (p:Addr) u,W8.cell? p = some u→V.cell? p = some u:=fun p u hu=>(A.bel.cell (yI W8 _ hu)).trans hu
         match i,Z with
         | 0,Z =>
          obtain rfl:=ya Z
          clear G A L xk
          rw [if_pos (by rfl)];unfold Oper.wp;go_simp
          exact ⟨upd f 0 (.slice (some (yp V 0)) 0 0),by simp [upd],rz_0 (U xw) xu (fun _=>trivial),zV _ (U qu) (by decide) (by decide)⟩
         | 1,Z =>
          obtain rfl:=ya Z
          have g6:f 6 = .slice am FL.length cm:=(U qu).2 (zv L 12 1 6 (by kernel_rfl) hx (by simp) xu)
          clear G A L xk
          rw [if_pos (by rfl)];unfold Oper.wp;go_simp
          exact ⟨upd f 1 (.slice am FL.length cm),by simp [upd,g6],rz_val (U xw) 1 _ rfl (by decide) (by decide) (by decide) (by decide),zV _ (U qu) (by decide) (by decide)⟩
         | 2,Z =>
          obtain rfl:=ya Z
          have k0:x[0]? = some true:=G ⟨0,.data⟩ (by simp) rfl
          have g1:f 1 = .slice am FL.length cm:=A.c 1 (yd G 1 rfl)
          have n5:x[5]? = some false:=zv L 12 2 5 (by kernel_rfl) hx (by simp) xu
          have vC:=Y (A.m0 k0 xu)
          have xR:=A.bel
          have HRDV:Hid (∀ ad,am = some ad→∀ j u,(FL.flatMap Od.vs)[j]? = some u→V.cell? (ad.add j) = some u):=fun ad had=>by
           have h:=zK (zk (U HLW) xR) (by omega)
           rw [had] at h
           exact rd_src h
          have HSLV:=Y (oRow_sl (U HLW))
          clear G A L xk
          rw [if_pos (by rfl)]
          rcases U HSLV with h | ⟨ad,nn,cc,h⟩
          ·simp only [Value.slice.injEq] at h
           have hL:FL = []:=List.length_eq_zero_iff.1 h.2.1
           refine dl (.tmp 155) (.tmp 156) 26 rfl W8.heap.size 49 i0 6 Tryz.underlying26 uz (f 0) 0 [] rfl (U vC) (by show f 1 = _; rw [g1,h.1,h.2.1,h.2.2]) ?_
           exact ⟨upd f 2 (f 0),rfl,rz_2 (U xw) k0 xu n5 (fun _=>trivial) (by rw [hL]; exact U vC) (yP _ _),zV _ (U qu) (by decide) (by decide)⟩
          ·simp only [Value.slice.injEq] at h
           refine wp_append_own V (.tmp 155) (.tmp 156) 26 rfl W8.heap.size 49 i0 _ 6 56 Tryz.underlying26 uz uA uF uR rfl (by decide) (f 0) 0 [] rfl (U vC) ad FL.length cm (FL.flatMap Od.vs) (by show f 1 = _; rw [g1,h.1]) (by rw [zH Od.len]) (U HRDV ad h.1) (aA FL) (by unfold maxLen; omega) (by omega) xR.size ?_
           intro v' w' xK uh _
           refine ⟨upd f 2 v',rfl,rz_2 (U xw) k0 xu n5 (fun _=>trivial) ?_ uh,zV _ (U qu) (by decide) (by decide)⟩
           show w'.ownsRow _ _ _ _ FL.length _
           simpa using xK
         | 3,Z =>
          obtain rfl:=ya Z
          have t0:=xk (J tb 0) _ (U jX 0 _ rfl)
          have t1:=xk (J tb 1) _ (U jX 1 _ rfl)
          have t2:=xk (J tb 2) _ (U jX 2 _ rfl)
          have t3:=xk (J tb 3) _ (U jX 3 _ rfl)
          have t4:=xk (J tb 4) _ (U jX 4 _ rfl)
          have t5:=xk (J tb 5) _ (U jX 5 _ rfl)
          clear G A L xk
          rw [if_pos (by rfl)];unfold Oper.wp;go_simp
          exact ⟨upd f 3 (.agg (yu next s tt Fl li K).toArray),by simp [upd],rz_val (U xw) 3 _ rfl (by decide) (by decide) (by decide) (by decide),zV _ (U qu) (by decide) (by decide)⟩
         | 4,Z =>
          obtain rfl:=ya Z
          have g3:f 3 = .agg (yu next s tt Fl li K).toArray:=A.c 3 (yd G 3 rfl)
          have n5:x[5]? = some false:=zv L 12 4 5 (by kernel_rfl) hx (by simp) xu
          clear G A L xk
          rw [if_pos (by rfl)];unfold Oper.wp;go_simp
          exact ⟨upd f 4 (.slice (some (yp V 0)) 1 1),by simp [upd,g3],rz_4 (U xw) xu n5 (fun _=>trivial),zV _ (U qu) (by decide) (by decide)⟩
         | 5,Z =>
          obtain rfl:=ya Z
          have k2:x[2]? = some true:=G ⟨2,.data⟩ (by simp) rfl
          obtain ⟨b4,g4,xS,xU,uC,-⟩:=A.m4 (yd G 4 rfl) xu
          have vL:=Y (A.m2 k2 xu)
          have xR:=A.bel
          have h6:x[6]? = some false:=zv L 12 5 6 (by kernel_rfl) hx (by simp) xu
          have uU:Hid (∀ j u,(Od.vs ⟨next,s,tt,Fl,li,K⟩)[j]? = some u→V.cell? (((J b4 0):Addr).add j) = some u):=fun j u hu=>by
           have:=uC j u hu
           rw [Addr.add_mid]; exact this
          clear G A L uC xk
          rw [if_pos (by rfl)]
          refine wp_append_own V (.tmp 157) (.tmp 159) 26 rfl W8.heap.size 49 i0 _ 6 56 Tryz.underlying26 uz uA uF uR rfl (by decide) (f 2) FL.length (FL.flatMap Od.vs) rfl (U vL) (J b4 0) 1 1 (Od.vs ⟨next,s,tt,Fl,li,K⟩) (by show f 4 = _; exact g4) rfl (U uU) (one_od ⟨next,s,tt,Fl,li,K⟩) (by unfold maxLen; omega) (by omega) xR.size ?_
          intro v' w' xK uh _
          refine ⟨upd f 5 v',rfl,rz_5 (U xw) k2 xu (fun _=>trivial) ?_ uh,ryb_write v' (U qu) h6⟩
          show w'.ownsRow _ _ _ _ (FL ++ [(⟨next,s,tt,Fl,li,K⟩:Od)]).length _
          rw [yN,List.flatMap_append]
          simpa using xK
         | 6,Z =>
          obtain rfl:=ya Z
          have k5:x[5]? = some true:=G ⟨5,.data⟩ (by simp) rfl
          clear G A L xk
          rw [if_pos (by rfl)];unfold Oper.wp;go_simp
          exact ⟨upd f 6 (f 5),by simp [upd],rz_val (U xw) 6 _ trivial (by decide) (by decide) (by decide) (by decide),ryb_lay xu⟩
         | n + 7,Z=>simp at Z
        ·rintro x hR V ⟨f,rfl,A,hA⟩ hx xM
         have xn:=zO xM hx (by kernel_rfl)
         have e6:f 6 = f 5:=hA.1 (xn 6 (by simp))
         have hO5:=A.m5 (xn 5 (by simp))
         have xR:=A.bel
         obtain ⟨aL,cL,hvL⟩:=zQ hO5
         rw [hvL] at hO5 e6
         generalize (FL ++ [(⟨next,s,tt,Fl,li,K⟩:Od)]).length = nL at hO5 e6
         simp only [e6]
         have HLW:=Y (zF hO5 (show hD.heap.size ≤ W8.heap.size from (U HBW8).size))
         have HEW:=Y (zG (U HEW8) xR)
         have kT:=Y (dq (U HBW8) xR)
         have qf:=Y (zb (U HXR8) xR heb8)
         have H3W:Hid (w3.heap.size ≤ V.heap.size):=yL (U H3W8) xR.size
         clear A hA xn xM hx hO5 xR e6 hvL
         generalize f 0 = tn0,f 1 = tn1,f 2 = tn2,f 3 = tn3,f 4 = tn4,f 5 = tn5
         obtain ⟨x0,x1,x2,x3,x4,x5,x6,x7,x8,x9,x10,x11,x12,x13⟩:=yD (U qf)
         have HEA:=Y ((U HEW).alloc (D (yt 4 0 0 0 0 0 0 0 ⟨#[]⟩ next 0 Fl 0 0).toArray 46))
         have qB:Hid (ym V (V.alloc (D (yt 4 0 0 0 0 0 0 0 ⟨#[]⟩ next 0 Fl 0 0).toArray 46))):=dm _ _
         have h3W:w3.heap.size ≤ V.heap.size:=U H3W
         go_wp2_with (at_builtin; go_must (refine wpList_append_own _ rfl _ _ 38 rfl w3.heap.size 46 j0 _ 14 120 Tryz.underlying38 jn jz kJ hy2 rfl (by decide) v14 evs.length (evs.flatMap Ev.vs) rfl (U HEA) (yp V 0) 1 1 (Ev.vs ⟨4,zCm,next,0,Fl,0,0⟩) rfl rfl (aY V (Ev.vs ⟨4,zCm,next,0,Fl,0,0⟩) 46) (one_ev ⟨4,zCm,next,0,Fl,0,0⟩) (by unfold maxLen; omega) (by omega) (yL h3W (U qB).size) ?_); intro v5 w9 vn pJ _; have HO9:=Y vn; have HG9:=Y pJ; clear vn pJ)
         have HE9:Hid (ERow w9 w3.heap.size v5 (evs ++ [⟨4,zCm,next,0,Fl,0,0⟩])):=by
          show w9.ownsRow _ _ _ _ (evs ++ [(⟨4,zCm,next,0,Fl,0,0⟩:Ev)]).length _
          rw [yN,List.flatMap_append]
          simpa using U HO9
         have HL9:=Y (World.ownsRow.kept (zk (U HLW) (U qB)) (U HG9) (zA (zk (U HLW) (U qB)) (U HEA) (by decide)))
         have ky:Hid (ym hD w9):=by
          have Q:=(U kT).trans ((U qB).mono (U kT).size)
          exact Q.grown (U HG9) Q.size (fun g hg=>yL hX3 ((U HEA).lt g hg).1)
         clear HO9 HG9 HEA qB
         go_wp2_with fail
         refine U vp _ _ ?_
         clear vp
         obtain ⟨z0,z1,y0,y1,y2,y3,y4,y5,y6,y7⟩:=U xI w9 (U ky)
         have qa:=ze (U HB).2.2.2.2.1 (U ky) vK
         obtain ⟨p0,x0,f0⟩:=zc qa (j:=0) (by omega)
         obtain ⟨p1,x1,f1⟩:=zc qa (j:=1) (by omega)
         have hBW:=(U HB).2.2.2.2.2.trans ((U ky).mono (U HB).2.2.2.2.2.size)
         have HWF:Hid (ym w ((w9.setCell (J (w.heap.size + 1 + 1) 0) (H (next + 1))).setCell (J (w.heap.size + 1 + 1) 1) (.slice aL nL cL))):=(hBW.setCell (p:=(J (w.heap.size + 1 + 1) 0)) (show w.heap.size ≤ w.heap.size + 1 + 1 by omega) _).setCell (p:=(J (w.heap.size + 1 + 1) 1)) (show w.heap.size ≤ w.heap.size + 1 + 1 by omega) _
         have HEF:Hid (ERow ((w9.setCell (J (w.heap.size + 1 + 1) 0) (H (next + 1))).setCell (J (w.heap.size + 1 + 1) 1) (.slice aL nL cL)) w.heap.size v5 (evs ++ [⟨4,zCm,next,0,Fl,0,0⟩])):=zF (bz (bz (U HE9) hS3 0 _) hS3 1 _) (by omega)
         have HLF:Hid (ORow ((w9.setCell (J (w.heap.size + 1 + 1) 0) (H (next + 1))).setCell (J (w.heap.size + 1 + 1) 1) (.slice aL nL cL)) w.heap.size (.slice aL nL cL) (FL ++ [⟨next,s,tt,Fl,li,K⟩])):=zF (aJ (aJ (U HL9) vK 0 _) vK 1 _) hXw
         have kU:Hid (((w9.setCell (J (w.heap.size + 1 + 1) 0) (H (next + 1))).setCell (J (w.heap.size + 1 + 1) 1) (.slice aL nL cL)).cell? (J (w.heap.size + 1 + 1) 0) = some (H (next + 1))):=(yJ _ _ _ _ (zN (by decide))).trans (yK _ _ _ x0)
         have qP:Hid (((w9.setCell (J (w.heap.size + 1 + 1) 0) (H (next + 1))).setCell (J (w.heap.size + 1 + 1) 1) (.slice aL nL cL)).cell? (J (w.heap.size + 1 + 1) 1) = some (.slice aL nL cL)):=yK _ _ _ ((yJ _ _ _ _ (zN (by decide))).trans x1)
         clear qa hBW y0 y1 y2 y3 y4 y5 y6 y7
         go_wp2_with fail
         have d0:=U kU
         have d1:=U qP
         try simp only [Exit.inBlock,Exit.then]
         refine bodyPost_ret (by simp [results,Tryz.results44,go_sem,d0,d1]; try rfl) rfl ?_
         obtain ⟨rfl,ke,jP⟩:=U uE
         rw [if_pos ⟨hFl,qz⟩] at ke
         rw [if_pos hFl,if_pos qz,U HEVS] at jP
         subst ke jP
         exact ⟨_,_,rfl,U HLF,U HEF,U HWF⟩
      ·go_wp2_with fail
       refine U vp _ _ ?_
       clear vp
       obtain ⟨z0,z1,y0,y1,y2,y3,y4,y5,y6,y7⟩:=U xI W (U xr)
       have qa:=ze (U HB).2.2.2.2.1 (U xr) vK
       obtain ⟨p0,x0,f0⟩:=zc qa (j:=0) (by omega)
       obtain ⟨p1,x1,f1⟩:=zc qa (j:=1) (by omega)
       have hBW:=(U HB).2.2.2.2.2.trans ((U xr).mono (U HB).2.2.2.2.2.size)
       have HWF:Hid (ym w ((W.setCell (J (w.heap.size + 1 + 1) 0) (H (next + 1))).setCell (J (w.heap.size + 1 + 1) 1) (.slice am FL.length cm))):=(hBW.setCell (p:=(J (w.heap.size + 1 + 1) 0)) (show w.heap.size ≤ w.heap.size + 1 + 1 by omega) _).setCell (p:=(J (w.heap.size + 1 + 1) 1)) (show w.heap.size ≤ w.heap.size + 1 + 1 by omega) _
       have HEF:Hid (ERow ((W.setCell (J (w.heap.size + 1 + 1) 0) (H (next + 1))).setCell (J (w.heap.size + 1 + 1) 1) (.slice am FL.length cm)) w.heap.size v14 (evs)):=zF (bz (bz (U vv) hS3 0 _) hS3 1 _) (by omega)
       have HLF:Hid (ORow ((W.setCell (J (w.heap.size + 1 + 1) 0) (H (next + 1))).setCell (J (w.heap.size + 1 + 1) 1) (.slice am FL.length cm)) w.heap.size (.slice am FL.length cm) (FL)):=zF (aJ (aJ (U jF) vK 0 _) vK 1 _) hXw
       have kU:Hid (((W.setCell (J (w.heap.size + 1 + 1) 0) (H (next + 1))).setCell (J (w.heap.size + 1 + 1) 1) (.slice am FL.length cm)).cell? (J (w.heap.size + 1 + 1) 0) = some (H (next + 1))):=(yJ _ _ _ _ (zN (by decide))).trans (yK _ _ _ x0)
       have qP:Hid (((W.setCell (J (w.heap.size + 1 + 1) 0) (H (next + 1))).setCell (J (w.heap.size + 1 + 1) 1) (.slice am FL.length cm)).cell? (J (w.heap.size + 1 + 1) 1) = some (.slice am FL.length cm)):=yK _ _ _ ((yJ _ _ _ _ (zN (by decide))).trans x1)
       clear qa hBW y0 y1 y2 y3 y4 y5 y6 y7
       go_wp2_with fail
       have d0:=U kU
       have d1:=U qP
       try simp only [Exit.inBlock,Exit.then]
       refine bodyPost_ret (by simp [results,Tryz.results44,go_sem,d0,d1]; try rfl) rfl ?_
       obtain ⟨rfl,ke,jP⟩:=U uE
       rw [if_neg (fun h=>by have:=h.1; omega)] at ke
       rw [if_neg (by omega),List.append_nil,U HEVS] at jP
       subst ke jP
       exact ⟨_,_,rfl,U HLF,U HEF,U HWF⟩
     have HT2':=Y vx
     clear vx hK
     have h3Y:w3.heap.size ≤ yb.heap.size:=by have:=(U vY).lt be rfl; omega
     rcases (U qZ).2 with ⟨hv,h0⟩ | ⟨gt,ct,cut,hv,_⟩
     ·simp only [Value.slice.injEq] at hv
      obtain ⟨rfl,oo,rfl⟩:=hv
      obtain rfl:=List.length_eq_zero_iff.1 oo
      go_wp2_with (at_builtin; go_must (refine wpList_append_own_none rfl _ _ 38 rfl w3.heap.size 46 j0 14 Tryz.underlying38 jn (.slice (some (J be 0)) 1 1) 1 _ rfl (U vY) rfl ?_))
      exact U HT2' _ _ (U vY) (U HO6) (U HTK) (U kg) hlt6 h3Y
     ·simp only [Value.slice.injEq] at hv
      obtain ⟨rfl,-,rfl⟩:=hv
      have uU:=Y (row_src (U qZ))
      go_wp2_with (at_builtin; go_must (refine wpList_append_own _ rfl _ _ 38 rfl w3.heap.size 46 j0 _ 14 120 Tryz.underlying38 jn jz kJ hy2 rfl (by decide) (.slice (some (J be 0)) 1 1) 1 _ rfl (U vY) (J gt 0) Ft.length ce (Ft.flatMap Ev.vs) rfl (by rw [zH Ev.len]) (U uU) (one_allE Ft) (by unfold maxLen; omega) (by omega) h3Y ?_); intro v14 w7 hown7 hg7 _; have HO7:=Y hown7; have HG7:=Y hg7; clear hown7 hg7)
      have HE7:Hid (ERow w7 w3.heap.size v14 (⟨1,⟨1,s,ty,li,O,ii,pr,cutB K⟩,next,0,0,0,0⟩ :: Ft)):=by
       show w7.ownsRow _ _ _ _ (⟨1,⟨1,s,ty,li,O,ii,pr,cutB K⟩,next,0,0,0,0⟩ :: Ft:List Ev).length _
       have h:=U HO7
       rw [List.length_cons,Nat.add_comm]
       simpa using h
      exact U HT2' _ _ (U HE7) (World.ownsRow.kept (U HO6) (U HG7) (zA (U HO6) (U vY) (by decide))) (fun j u R=>(yO (a:=(J tb (0 + j))) ((U HG7).block tb hlt6 (zj (U vY) (U HTX) (by decide)))).trans (U HTK j u R)) ((U kg).grown (U HG7) (U kg).size (fun g hg=>yL hX3 ((U vY).lt g hg).1)) (yH hlt6 (U HG7).size) (yL h3Y (U HG7).size)
   ·exact absurd (U ux).2 (by decide)
   ·exact absurd (U ux).2 (by decide)
   ·exact absurd (U ux).2 (by decide)
  ·have kH:=uX
   have qz:(rr == 0) = false:=by rw [xb]; exact uX
   have uE:Hid (sN = next∧sL = l∧sE = [⟨2,⟨kk,s,ty,li,O,ii,pr,cutB K⟩,0,0,0,0,rr⟩]):=⟨by rw [U uZ,if_neg (fun h=>uX h.1)],by rw [U uy,if_neg uX],by rw [U uY,if_neg uX]⟩
   skip
   exact absurd (U ux).1 kH
 rcases U vH with hs | ⟨ad,nn,cc,hs⟩
 ·simp only [Value.slice.injEq] at hs
  obtain ⟨rfl,oo,rfl⟩:=hs
  obtain rfl:=List.length_eq_zero_iff.1 oo
  obtain ⟨z0,z1,y0,y1,y2,y3,y4,y5,y6,y7⟩:=U xI hD (Below.refl _ _)
  have vC:=Y (World.ownsRow_made (base:=hD.heap.size) (e:=49) (size:=6) hD #[] 0 qt (by decide) rfl)
  have hzX:World.cell? (hD.alloc (D #[] 49)) (yp w 1) = some (.slice none 0 0):=(U xI _ (dm _ _)).2.1
  have kB:=Y HT
  clear HT hK
  go_wp2_with (at_builtin; go_must (refine wpList_append_own_none rfl _ _ 26 rfl hD.heap.size 49 i0 6 Tryz.underlying26 uz (.slice (some (yp hD 0)) 0 0) 0 [] rfl (U vC) rfl ?_))
  exact U kB _ _ _ (U vC) (dm _ _)
 ·simp only [Value.slice.injEq] at hs
  obtain ⟨rfl,rfl,rfl⟩:=hs
  obtain ⟨z0,z1,y0,y1,y2,y3,y4,y5,y6,y7⟩:=U xI hD (Below.refl _ _)
  have uJ:Hid (ym hD (hD.alloc (D #[] 49))):=dm _ _
  have vC:=Y (World.ownsRow_made (base:=hD.heap.size) (e:=49) (size:=6) hD #[] 0 qt (by decide) rfl)
  have hzX:World.cell? (hD.alloc (D #[] 49)) (yp w 1) = some (.slice (some ad) l.length E):=(U xI _ (U uJ)).2.1
  have uU:Hid (∀ j u,(l.flatMap Od.vs)[j]? = some u→World.cell? (hD.alloc (D #[] 49)) (ad.add j) = some u):=rd_src (zl (U HR) ((U HB).2.2.2.2.2.trans ((U uJ).mono (U HB).2.2.2.2.2.size)) qt)
  have kB:=Y HT
  clear HT hK
  go_wp2_with (at_builtin; go_must (refine wpList_append_own _ rfl _ _ 26 rfl hD.heap.size 49 i0 _ 6 56 Tryz.underlying26 uz uA uF uR rfl (by decide) (.slice (some (yp hD 0)) 0 0) 0 [] rfl (U vC) ad l.length E (l.flatMap Od.vs) rfl (by rw [zH Od.len]) (U uU) (aA l) (by unfold maxLen; omega) (by omega) (U uJ).size ?_); intro v1 w1 uT qd _; have vh:=Y uT; have kh:=Y qd; clear uT qd)
  have pD:Hid (ORow w1 hD.heap.size v1 l):=by
   show w1.ownsRow _ _ _ _ l.length _
   simpa using U vh
  obtain ⟨a6,c6,hv⟩:=zQ (U pD)
  subst hv
  exact U kB _ _ _ (U pD) ((U uJ).grown (U kh) (U uJ).size (fun k hk=>((U vC).lt k hk).1))
end Go.Proofs.YtbakanofkghmiaaGreat
