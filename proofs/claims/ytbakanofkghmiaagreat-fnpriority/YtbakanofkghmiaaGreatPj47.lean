/-
  A command done on a book, by the model: proved by walking the function.
-/
import Derived.Test.YtbakanofkghmiaaGreatPj43
set_option linter.unusedVariables false
set_option maxHeartbeats 6400000
set_option maxRecDepth 100000
namespace Go.Proofs.YtbakanofkghmiaaGreat
open Go.RowKit
theorem l04Step_a (next:Int) (vb:Value) (l:List Od) (c:Cm) (w:World) (qP:refR next l c = 0∧c.k = 1) (hr:RdR Od.vs 6 w vb l) (hs:SlOk vb) (hg:GoodL l) (uu:∀ x ∈ l,x.side = 1 ∨ x.side = 2) (h0:0 ≤ next) (z:next ≤ 1000000) (ht:c.g.size ≤ maxLen) :
  Calls Tryz.prog 44 #[.agg #[H next,vb],cmV c] w fun e w'=>∃ vq vg,e = yk (.tuple #[.agg #[H (stN next l c),vq],vg])∧ORow w' w.heap.size vq (stL next l c)∧ERow w' w.heap.size vg (stE next l c)∧yl w w':=by
 obtain ⟨i0,uv,uq,uw,uM⟩:=info_parts Tryz.infoOrder
 obtain ⟨j0,jk,js,kM,hy2⟩:=info_parts infoEv
 have HR:=Q hr
 have uW:=Q hs
 have HG:=Q hg
 have qU:=Q ht
 have vG:=hg.len
 have ur:Hid (0 ≤ next∧next ≤ 1000000):=⟨h0,z⟩
 have uG:=Q (fun (W:World) hW=>dF next vb l c W hW hs hg uu ht)
 rw [ref_eq] at uG
 have HK:=Q (@de next l c)
 have HQ:=Q (@dx next l c)
 have qA:=Q (@ref_id next l c)
 have jm:=Q (@ref_newS next l c)
 have um:=Q qP
 clear qP
 have uB:Hid (stN next l c = if refR next l c = 0∧c.k = 1 then next + 1 else next):=rfl
 have uo:=Q (stL.eq_1 next l c)
 have uA:=Q (stE.eq_1 next l c)
 have oa:=Q (fun W=>dE c W ht)
 have qF:=Q (fun (a:Option Addr) (n F:Nat) (W:World)=>dn next a n F c W)
 have jJ:=Q (fun (v:Value) (W:World) hr hs hp je qy=>dm v l c next W hr hg hs hp je qy)
 obtain ⟨a,F,rfl,vy,hc⟩:=hr
 obtain ⟨kk,s,ty,li,X,ii,pr,O⟩:=c
 generalize stN next l ⟨kk,s,ty,li,X,ii,pr,O⟩ = sN at uB ⊢
 generalize stL next l ⟨kk,s,ty,li,X,ii,pr,O⟩ = sL at uo ⊢
 generalize stE next l ⟨kk,s,ty,li,X,ii,pr,O⟩ = sE at uA ⊢
 generalize refR next l ⟨kk,s,ty,li,X,ii,pr,O⟩ = rr at uG uB uo uA HK HQ qA jm um
 unfold cmV at uG qF ⊢
 simp only at uG uB uo uA HK HQ qA jm oa qF jJ qU um ⊢
 have HB:=Q (box3 w [H next,.slice a l.length F] (yu kk s ty li X ii pr O) [H 0,.slice none 0 0] 28 43 28)
 clear hs hg uu h0 z ht hc vy
 go_enter Tryz.func44,Tryz.ntmps44
 refine eH fun h2 xu=>?_
 go_wp2_with fail
 refine M xu _ _ ?_
 clear xu
 change Hid ((((w.alloc (E #[H next,.slice a l.length F] 28)).alloc (E (yu kk s ty li X ii pr O).toArray 43)).alloc (E #[H 0,.slice none 0 0] 28)).heap.size = w.heap.size + 3∧World.rangeAt (((w.alloc (E #[H next,.slice a l.length F] 28)).alloc (E (yu kk s ty li X ii pr O).toArray 43)).alloc (E #[H 0,.slice none 0 0] 28)) w.heap.size 0 [H next,.slice a l.length F]∧World.rangeAt (((w.alloc (E #[H next,.slice a l.length F] 28)).alloc (E (yu kk s ty li X ii pr O).toArray 43)).alloc (E #[H 0,.slice none 0 0] 28)) (w.heap.size + 1) 0 (yu kk s ty li X ii pr O)∧World.rangeAt (((w.alloc (E #[H next,.slice a l.length F] 28)).alloc (E (yu kk s ty li X ii pr O).toArray 43)).alloc (E #[H 0,.slice none 0 0] 28)) (w.heap.size + 1 + 1) 0 [H 0,.slice none 0 0]∧World.there (((w.alloc (E #[H next,.slice a l.length F] 28)).alloc (E (yu kk s ty li X ii pr O).toArray 43)).alloc (E #[H 0,.slice none 0 0] 28)) (w.heap.size + 1 + 1) 0 2∧yl w (((w.alloc (E #[H next,.slice a l.length F] 28)).alloc (E (yu kk s ty li X ii pr O).toArray 43)).alloc (E #[H 0,.slice none 0 0] 28))) at HB
 generalize (((w.alloc (E #[H next,.slice a l.length F] 28)).alloc (E (yu kk s ty li X ii pr O).toArray 43)).alloc (E #[H 0,.slice none 0 0] 28)) = qt at HB ⊢
 have xE:Hid (∀ W:World,yl qt W→W.cell? (yn w 0) = some (H next)∧W.cell? (yn w 1) = some (.slice a l.length F)∧W.cell? (J (w.heap.size + 1) 0) = some (H kk)∧W.cell? (J (w.heap.size + 1) 1) = some (H s)∧W.cell? (J (w.heap.size + 1) 2) = some (H ty)∧W.cell? (J (w.heap.size + 1) 3) = some (H li)∧W.cell? (J (w.heap.size + 1) 4) = some (H X)∧W.cell? (J (w.heap.size + 1) 5) = some (H ii)∧W.cell? (J (w.heap.size + 1) 6) = some (yh pr)∧W.cell? (J (w.heap.size + 1) 7) = some (yi O)):=fun W hW =>
  have p:=zb (M HB).2.1 hW (by have:=(M HB).1; omega)
  have q:=zb (M HB).2.2.1 hW (by have:=(M HB).1; omega)
  ⟨p 0 _ rfl,p 1 _ rfl,q 0 _ rfl,q 1 _ rfl,q 2 _ rfl,q 3 _ rfl,q 4 _ rfl,q 5 _ rfl,q 6 _ rfl,q 7 _ rfl⟩
 have uU:w.heap.size + 1 + 1 < qt.heap.size:=by have:=(M HB).1; omega
 refine wp_seq_k fun h2 hK=>?_
 have HT:∀ (a6:Option Addr) (c6:Nat) (w1:World),ORow w1 qt.heap.size (.slice a6 l.length c6) l→yl qt w1→h2 { tmps:=#[.agg #[H next,.slice a l.length F],.agg (yu kk s ty li X ii pr O).toArray,ym w 0,I (w.heap.size + 1) 0,I (w.heap.size + 1 + 1) 0,.slice none 0 0,.slice a6 l.length c6,Z,Z,Z,Z,Z,Z,Z,Z,Z,Z,Z,.slice (some (yn qt 0)) 0 0,ym w 1,.slice a l.length F,.slice a6 l.length c6,Z,Z,Z,Z,Z,Z,Z,Z,Z,Z,Z,Z,Z,Z,Z,Z,Z,Z,Z,Z,Z,Z,Z,Z,Z,Z,Z,Z,Z,Z,Z,Z,Z,Z,Z,Z,Z,Z,Z,Z,Z,Z,Z,Z,Z,Z,Z,Z,Z,Z,Z,Z,Z,Z,Z,Z,Z,Z,Z,Z,Z,Z,Z,Z,Z,Z,Z,Z,Z,Z,Z,Z,Z,Z,Z,Z,Z,Z,Z,Z,Z,Z,Z,Z,Z,Z,Z,Z,Z,Z,Z,Z,Z,Z,Z,Z,Z,Z,Z,Z,Z,Z,Z,Z,Z,Z,Z,Z,Z,Z,Z,Z,Z,Z,Z,Z,Z,Z,Z,Z,Z,Z,Z,Z,Z,Z,Z,Z,Z,Z,Z,Z,Z,Z,Z,Z,Z,Z,Z,Z,Z,Z,Z,Z,Z,Z,Z,Z,Z],defers:=[] } w1:=by
  intro a6 c6 w1 vV xR
  refine hK _ _ ?_
  clear hK
  have uZ:=Q vV
  have xT:=Q xR
  clear vV xR
  obtain ⟨z0,z1,y0,y1,y2,y3,y4,y5,y6,y7⟩:=M xE w1 (M xT)
  refine eH fun h2 xu=>?_
  go_wp2_with fail
  refine (M uG w1 (zh (M HR) ((M HB).2.2.2.2.2.trans ((M xT).mono (M HB).2.2.2.2.2.size)) tg)).mono ?_
  rintro e w2 ⟨rfl,ue⟩
  have vO:=Q (zj (M uZ) ue)
  have xC:=Q (eG (M xT) ue)
  clear z0 z1 y0 y1 y2 y3 y4 y5 y6 y7 ue uZ
  obtain ⟨z0,z1,y0,y1,y2,y3,y4,y5,y6,y7⟩:=M xE w2 (M xC)
  have vw:=Q (zf (M HB).2.2.2.2.1 (M xC) uU)
  have oh:w.heap.size + 1 + 1 < w2.heap.size:=yG uU (M xC).size
  have xJ:=Q ((M HB).2.2.2.2.2.trans ((M xC).mono (M HB).2.2.2.2.2.size))
  have hXw:w.heap.size ≤ qt.heap.size:=by omega
  have hX2:qt.heap.size ≤ w2.heap.size:=(M xC).size
  have kS:=hX2
  by_cases uR:rr = 0
  ·subst uR
   have pA:=M HK rfl
   rcases pA with rfl | rfl | rfl | rfl
   ·have hq:=M HQ rfl rfl
    obtain ⟨hss,hpp,htt,hii⟩:=M jm rfl rfl
    have HMTT:=Q (fun (v:Value) (W:World) hr=>M jJ v W hr hss hpp (by omega) hq.2)
    have oG:=Q (cM (c:=⟨1,s,ty,li,X,ii,pr,O⟩) (id:=next) 21 l X [] (M HG) (by omega) hq.2)
    have HMF:=Q (matL_few (c:=⟨1,s,ty,li,X,ii,pr,O⟩) (id:=next) 21 l X [])
    have ux:Hid (sN = next + 1∧sL = (if 0 < (matL ⟨1,s,ty,li,X,ii,pr,O⟩ next 21 l X []).2.1∧ay ty = true then (matL ⟨1,s,ty,li,X,ii,pr,O⟩ next 21 l X []).1 ++ [⟨next,s,tkS pr,(matL ⟨1,s,ty,li,X,ii,pr,O⟩ next 21 l X []).2.1,li,O⟩] else (matL ⟨1,s,ty,li,X,ii,pr,O⟩ next 21 l X []).1)∧sE = ⟨1,⟨1,s,ty,li,X,ii,pr,cutB O⟩,next,0,0,0,0⟩ :: (matL ⟨1,s,ty,li,X,ii,pr,O⟩ next 21 l X []).2.2 ++ (if 0 < (matL ⟨1,s,ty,li,X,ii,pr,O⟩ next 21 l X []).2.1 then [⟨if ay ty = true then 4 else 5,zCm,next,0,(matL ⟨1,s,ty,li,X,ii,pr,O⟩ next 21 l X []).2.1,0,0⟩] else [])):=⟨by rw [M uB,if_pos ⟨rfl,rfl⟩],by rw [M uo,if_pos rfl,if_pos rfl]; exact acc_l hpp,by rw [M uA,if_pos rfl,if_pos rfl,accE,cutB_tag htt,hii]⟩
    generalize matL ⟨1,s,ty,li,X,ii,pr,O⟩ next 21 l X [] = xh at ux HMTT oG HMF
    obtain ⟨FL,Fl,Ft⟩:=xh
    simp only at ux HMTT oG HMF
    generalize tkS pr = tt at ux HMTT qF
    have hFL:=(M oG).1.len
    have hFt:Ft.length ≤ 21:=by simpa using M HMF
    obtain ⟨hn0,hn1⟩:=M ur
    clear uB uo uA HQ qA HK jm jJ hpp htt hii hss oG HMF
    go_wp2_with fail
    refine M xu _ _ ?_
    clear xu
    refine eH fun h2 xu=>?_
    go_wp2_with fail
    refine (dq _ l ii w2 (zT (M vO) (by omega))).mono ?_
    generalize plc l ii = pk
    rintro e w3 ⟨rfl,uf⟩
    have qB:=Q (zj (M vO) uf)
    have xM:=Q (eG (M xC) uf)
    clear uf z0 z1 y0 y1 y2 y3 y4 y5 y6 y7 vw xJ oh kS
    have vw:=Q (zf (M HB).2.2.2.2.1 (M xM) uU)
    have oh:w.heap.size + 1 + 1 < w3.heap.size:=yG uU (M xM).size
    have xJ:=Q ((M HB).2.2.2.2.2.trans ((M xM).mono (M HB).2.2.2.2.2.size))
    have kS:qt.heap.size ≤ w3.heap.size:=(M xM).size
    obtain ⟨z0,z1,y0,y1,y2,y3,y4,y5,y6,y7⟩:=M xE w3 (M xM)
    have HZ0:=Q z0
    have HZ1:=Q z1
    have HY0:=Q y0
    have HY1:=Q y1
    have HY2:=Q y2
    have HY3:=Q y3
    have HY4:=Q y4
    have HY5:=Q y5
    have HY6:=Q y6
    have HY7:=Q y7
    go_wp2_with fail
    refine M xu _ _ ?_
    clear xu
    refine eH fun h2 xu=>?_
    go_wp2_with fail
    refine M xu _ _ ?_
    clear xu
    refine eH fun h2 xu=>?_
    clear z0 z1 y0 y1 y2 y3 y4 y5 y6 y7
    refine zi (RYBA (fun f=>{ tmps:=#[.agg #[H next,.slice a l.length F],.agg (yu 1 s ty li X ii pr O).toArray,ym w 0,I (w.heap.size + 1) 0,I (w.heap.size + 1 + 1) 0,.slice none 0 0,.slice a6 l.length c6,H 0,H pk,Z,Z,Z,Z,Z,f 6,Z,Z,Z,.slice (some (yn qt 0)) 0 0,ym w 1,.slice a l.length F,.slice a6 l.length c6,.agg #[H next,.slice a l.length F],.agg (yu 1 s ty li X ii pr O).toArray,H 0,H 0,.bool false,Z,Z,Z,Z,Z,Z,Z,Z,Z,.slice a6 l.length c6,I (w.heap.size + 1) 5,H ii,H pk,I (w.heap.size + 1) 0,H 1,.bool false,.bool false,Z,Z,Z,Z,Z,Z,Z,Z,Z,Z,Z,Z,Z,Z,Z,Z,.bool false,.bool false,Z,Z,Z,Z,Z,Z,Z,Z,Z,Z,Z,Z,Z,Z,Z,Z,.bool false,.bool false,Z,Z,Z,Z,Z,Z,Z,Z,Z,Z,Z,Z,Z,Z,Z,Z,Z,Z,Z,Z,Z,Z,Z,Z,Z,Z,Z,Z,Z,Z,Z,Z,Z,Z,Z,Z,Z,Z,Z,Z,Z,Z,Z,Z,Z,f 0,f 1,f 2,f 3,f 4,f 5,Z,Z,Z,Z,Z,Z,Z,Z,Z,Z,Z,Z,Z,Z,Z,Z,Z,Z,Z,Z,Z,Z,Z,Z,Z,Z,Z,Z,Z,Z,Z,Z,Z,Z,Z,Z,Z,Z,Z,Z],defers:=[] }) (CX [.agg (yu 1 s ty li X ii pr O).toArray,.agg (yu 1 s ty li X ii pr (cutB O)).toArray,ym w 0,H next,.agg (ys 1 1 s ty li X ii pr (cutB O) next 0 0 0 0).toArray,Z,Z] [] (w3.heap.size) 0 [] ([])) 5 (Z) (fun f W=>∃ be,f 5 = .slice (some (J be 0)) 1 1∧ERow W w3.heap.size (.slice (some (J be 0)) 1 1) [⟨1,⟨1,s,ty,li,X,ii,pr,cutB O⟩,next,0,0,0,0⟩]∧yl qt W∧ORow W qt.heap.size (.slice a6 l.length c6) l) w3) (by kernel_rfl) ?_ ?_ ?_
    ·exact ⟨fun _=>Z,rfl,ry_start (by decide),ryb_start rfl⟩
    rotate_left
    ·rintro x hR V i op ⟨f,rfl,A,hA⟩ xk hx Y xq D
     have xv:=Q A
     have qu:=Q hA
     clear hA
     have xj:x[5]? = some false→∀ (p:Addr) u,w3.cell? p = some u→V.cell? p = some u:=fun hn p u hu=>((A.b hn).cell (yH w3 _ hu)).trans hu
     match i,Y with
     | 0,Y =>
      obtain rfl:=hD Y
      have hn:x[5]? = some false:=zB xk 12 0 5 (by kernel_rfl) hx (by simp) xq
      have y0:=xj hn (J (w.heap.size + 1) 0) _ (M HY0)
      have y1:=xj hn (J (w.heap.size + 1) 1) _ (M HY1)
      have y2:=xj hn (J (w.heap.size + 1) 2) _ (M HY2)
      have y3:=xj hn (J (w.heap.size + 1) 3) _ (M HY3)
      have y4:=xj hn (J (w.heap.size + 1) 4) _ (M HY4)
      have y5:=xj hn (J (w.heap.size + 1) 5) _ (M HY5)
      have y6:=xj hn (J (w.heap.size + 1) 6) _ (M HY6)
      have y7:=xj hn (J (w.heap.size + 1) 7) _ (M HY7)
      clear D A xk xj
      rw [if_pos (by rfl)];unfold Oper.wp;go_simp
      exact ⟨upd f 0 (.agg (yu 1 s ty li X ii pr O).toArray),by simp [upd],az (M xv) 0 _ hn (by decide) (zZ rfl rfl),aG _ (M qu) (by decide) (by decide)⟩
     | 1,Y =>
      obtain rfl:=hD Y
      have hn:x[5]? = some false:=zB xk 12 1 5 (by kernel_rfl) hx (by simp) xq
      have g0:f 0 = .agg (yu 1 s ty li X ii pr O).toArray:=zV (A.c hn 0 (yc D 0 rfl)) rfl rfl
      clear D A xk xj
      rw [if_pos (by rfl)];unfold Oper.wp;go_simp
      refine (M oa V).mono ?_
      rintro e w4 ⟨rfl,xy⟩
      exact ⟨upd f 1 (.agg (yu 1 s ty li X ii pr (cutB O)).toArray),by simp [upd,g0],az (ry_grow (cx_monoB (by omega)) (M xv) hn xy) 1 _ hn (by decide) (zZ rfl rfl),aG _ (M qu) (by decide) (by decide)⟩
     | 2,Y =>
      obtain rfl:=hD Y
      have hn:x[5]? = some false:=zB xk 12 2 5 (by kernel_rfl) hx (by simp) xq
      clear D A xk xj
      rw [if_pos (by rfl)];unfold Oper.wp;go_simp
      exact ⟨upd f 2 (ym w 0),by simp [upd],az (M xv) 2 _ hn (by decide) (zZ rfl rfl),aG _ (M qu) (by decide) (by decide)⟩
     | 3,Y =>
      obtain rfl:=hD Y
      have hn:x[5]? = some false:=zB xk 12 3 5 (by kernel_rfl) hx (by simp) xq
      have g2:f 2 = ym w 0:=zV (A.c hn 2 (yc D 2 rfl)) rfl rfl
      have z0:=xj hn (yn w 0) _ (M HZ0)
      clear D A xk xj
      rw [if_pos (by rfl)];unfold Oper.wp;go_simp
      exact ⟨upd f 3 (H next),by simp [upd,g2],az (M xv) 3 _ hn (by decide) (zZ rfl rfl),aG _ (M qu) (by decide) (by decide)⟩
     | 4,Y =>
      obtain rfl:=hD Y
      have hn:x[5]? = some false:=zB xk 12 4 5 (by kernel_rfl) hx (by simp) xq
      have g1:f 1 = .agg (yu 1 s ty li X ii pr (cutB O)).toArray:=zV (A.c hn 1 (yc D 1 rfl)) rfl rfl
      have g3:f 3 = H next:=zV (A.c hn 3 (yc D 3 rfl)) rfl rfl
      clear D A xk xj
      rw [if_pos (by rfl)];unfold Oper.wp;go_simp
      exact ⟨upd f 4 (.agg (ys 1 1 s ty li X ii pr (cutB O) next 0 0 0 0).toArray),by simp [upd,g1,g3],az (M xv) 4 _ hn (by decide) (zZ rfl rfl),aG _ (M qu) (by decide) (by decide)⟩
     | 5,Y =>
      obtain rfl:=hD Y
      have hn:x[5]? = some false:=xq
      have g4:f 4 = .agg (ys 1 1 s ty li X ii pr (cutB O) next 0 0 0 0).toArray:=zV (A.c hn 4 (yc D 4 rfl)) rfl rfl
      have qY:x[6]? = some false:=zB xk 12 5 6 (by kernel_rfl) hx (by simp) xq
      have xZ:=A.b hn
      have oQ:=eD V (E (ys 1 1 s ty li X ii pr (cutB O) next 0 0 0 0).toArray 46)
      have HQQ:Hid (ERow (V.alloc (E (ys 1 1 s ty li X ii pr (cutB O) next 0 0 0 0).toArray 46)) w3.heap.size (.slice (some (yn V 0)) 1 1) [⟨1,⟨1,s,ty,li,X,ii,pr,cutB O⟩,next,0,0,0,0⟩]∧yl qt (V.alloc (E (ys 1 1 s ty li X ii pr (cutB O) next 0 0 0 0).toArray 46))∧ORow (V.alloc (E (ys 1 1 s ty li X ii pr (cutB O) next 0 0 0 0).toArray 46)) qt.heap.size (.slice a6 l.length c6) l):=⟨eRow_one V ⟨1,⟨1,s,ty,li,X,ii,pr,cutB O⟩,next,0,0,0,0⟩ xZ.size,(eG (M xM) xZ).trans (oQ.mono (yK (M xM).size xZ.size)),zj (zj (M qB) xZ) oQ⟩
      clear D A xk xj oQ xZ
      rw [if_pos (by rfl)];unfold Oper.wp;go_simp
      exact ⟨upd f 5 (.slice (some (yn V 0)) 1 1),by simp [upd,g4],ry_write (M xv) hn _ ⟨V.heap.size,zp _ _ _,M HQQ⟩,ryb_write _ (M qu) qY⟩
     | 6,Y =>
      obtain rfl:=hD Y
      have hn:x[5]? = some true:=D ⟨5,.data⟩ (by simp) rfl
      clear D A xk xj
      rw [if_pos (by rfl)];unfold Oper.wp;go_simp
      exact ⟨upd f 6 (f 5),by simp [upd],ry_after (M xv) 6 _ hn (by decide) (fun h=>h),ryb_lay xq⟩
     | n + 7,Y=>simp at Y
    ·rintro x hR V ⟨f,rfl,A,hA⟩ hx xK
     have xm:=zL xK hx (by kernel_rfl)
     have e6:f 6 = f 5:=hA.1 (xm 6 (by simp))
     obtain ⟨be,e5,q1,q2,q3⟩:=A.m (xm 5 (by simp))
     rw [e5] at e6
     refine M xu _ _ ?_
     clear xu
     simp only [e5,e6]
     have HE4:=Q q1
     have xS:=Q q2
     have kQ:=Q q3
     have h3V:w3.heap.size ≤ V.heap.size:=by have:=(M HE4).lt be rfl; omega
     clear A hA xm xK hx q1 q2 q3 e5 e6
     generalize f 0 = tm0,f 1 = tm1,f 2 = tm2,f 3 = tm3,f 4 = tm4
     refine eH fun h2 xu=>?_
     obtain ⟨z0,z1,y0,y1,y2,y3,y4,y5,y6,y7⟩:=M xE V (M xS)
     go_wp2_with fail
     refine (M qF a l.length F V).mono ?_
     rintro e w5 ⟨rfl,uN⟩
     have vN:=Q (zK (M HE4) uN)
     have vA:=Q (eG (M xS) uN)
     have pf:=Q (zj (M kQ) uN)
     clear uN z0 z1 y0 y1 y2 y3 y4 y5 y6 y7
     go_wp2_with fail
     refine (M HMTT _ w5 (zT (M pf) (by omega))).mono ?_
     rintro e w6 ⟨v6',ve,rfl,hl6,he6,qH⟩
     have hOm:ORow w6 qt.heap.size v6' FL:=by
      rcases hl6 with ⟨z,K⟩ | h
      ·rw [z,show FL = l from K]; exact zj (M pf) qH
      ·exact zA h (M vA).size
     clear hl6
     obtain ⟨am,cm,rfl⟩:=zO hOm
     obtain ⟨ae,ce,rfl⟩:=zO he6
     have qd:=eD w6 (E (yt next s tt Fl li O).toArray 49)
     have vZ:=Q (zK (zK (M vN) qH) qd)
     have qX:=Q (zK he6 qd)
     have HO6:=Q (zj hOm qd)
     have vI:=Q ((M vA).trans ((eG qH qd).mono (M vA).size))
     have oK:Hid (World.rangeAt (w6.alloc (E (yt next s tt Fl li O).toArray 49)) w6.heap.size 0 (yt next s tt Fl li O)):=zg w6 (yt next s tt Fl li O) _
     have HTX:Hid (∃ xp,(w6.alloc (E (yt next s tt Fl li O).toArray 49)).heap[w6.heap.size]? = some (.cells xp 49 (0,0))):=⟨_,heap_alloc_new w6 _⟩
     have hlt6:w6.heap.size < (w6.alloc (E (yt next s tt Fl li O).toArray 49)).heap.size:=by rw [ze]; omega
     have hX6:qt.heap.size ≤ w6.heap.size:=yK (M vA).size qH.size
     have h35:w3.heap.size ≤ w5.heap.size:=by have:=(M vN).lt be rfl; omega
     clear qd qH hOm he6
     go_wp2_with fail
     refine M xu _ _ ?_
     clear xu
     generalize (w6.alloc (E (yt next s tt Fl li O).toArray 49)) = ho at vZ qX HO6 vI oK HTX hlt6 ⊢
     generalize w6.heap.size = tb at oK HTX hlt6 hX6 ⊢
     have hX3:qt.heap.size ≤ w3.heap.size:=(M xM).size
     have hS3:w.heap.size + 1 + 1 < w3.heap.size:=yG uU hX3
     refine wp_seq_k fun h2 hK=>?_
     have vh:∀ (v14:Value) (W:World),ERow W w3.heap.size v14 (⟨1,⟨1,s,ty,li,X,ii,pr,cutB O⟩,next,0,0,0,0⟩ :: Ft)→ORow W qt.heap.size (.slice am FL.length cm) FL→W.rangeAt tb 0 (yt next s tt Fl li O)→yl qt W→tb < W.heap.size→w3.heap.size ≤ W.heap.size→h2 { tmps:=#[.agg #[H next,.slice a l.length F],.agg (yu 1 s ty li X ii pr O).toArray,ym w 0,I (w.heap.size + 1) 0,I (w.heap.size + 1 + 1) 0,.slice none 0 0,.slice am FL.length cm,H 0,H pk,Z,Z,Z,Z,Z,v14,I tb 0,.slice ae Ft.length ce,Z,.slice (some (yn qt 0)) 0 0,ym w 1,.slice a l.length F,.slice a6 l.length c6,.agg #[H next,.slice a l.length F],.agg (yu 1 s ty li X ii pr O).toArray,H 0,H 0,.bool false,Z,Z,Z,Z,Z,Z,Z,Z,Z,.slice a6 l.length c6,I (w.heap.size + 1) 5,H ii,H pk,I (w.heap.size + 1) 0,H 1,.bool false,.bool false,Z,Z,Z,Z,Z,Z,Z,Z,Z,Z,Z,Z,Z,Z,Z,Z,.bool false,.bool false,Z,Z,Z,Z,Z,Z,Z,Z,Z,Z,Z,Z,Z,Z,Z,Z,.bool false,.bool false,Z,Z,Z,Z,Z,Z,Z,Z,Z,Z,Z,Z,Z,Z,Z,Z,Z,Z,Z,Z,Z,Z,Z,Z,Z,Z,Z,Z,Z,Z,Z,Z,Z,Z,Z,Z,Z,Z,Z,Z,Z,Z,Z,Z,Z,tm0,tm1,tm2,tm3,tm4,.slice (some (J be 0)) 1 1,.tuple #[.slice am FL.length cm,.agg (yt next s tt Fl li O).toArray,.slice ae Ft.length ce],.slice a6 l.length c6,.agg #[H next,.slice a l.length F],.agg (yu 1 s ty li X ii pr O).toArray,.agg (yt next s tt X li O).toArray,.tuple #[.slice am FL.length cm,.agg (yt next s tt Fl li O).toArray,.slice ae Ft.length ce],.slice am FL.length cm,.agg (yt next s tt Fl li O).toArray,.slice ae Ft.length ce,.slice (some (J be 0)) 1 1,.slice ae Ft.length ce,v14,Z,Z,Z,Z,Z,Z,Z,Z,Z,Z,Z,Z,Z,Z,Z,Z,Z,Z,Z,Z,Z,Z,Z,Z,Z,Z,Z,Z],defers:=[] } W:=by
      intro v14 W he Y kr vF htb h3W0
      refine hK _ _ ?_
      clear hK HTX oK vZ qX HO6 vI hlt6 vN pf vA HE4 kQ xS HMTT qF oa
      have hlev:(⟨1,⟨1,s,ty,li,X,ii,pr,cutB O⟩,next,0,0,0,0⟩ :: Ft:List Ev).length ≤ 100:=by simp; omega
      generalize hevs:(⟨1,⟨1,s,ty,li,X,ii,pr,cutB O⟩,next,0,0,0,0⟩ :: Ft:List Ev) = evs at he hlev
      have HEVS:=Q hevs
      have qV:=Q he
      have HLV:=Q Y
      have HTKV:=Q kr
      have xo:=Q vF
      clear he Y kr vF hevs
      have q0:W.cell? (J tb 0) = some (H next):=M HTKV 0 _ rfl
      have q3:W.cell? (J tb 3) = some (H Fl):=M HTKV 3 _ rfl
      refine eH fun K3 jI=>?_
      by_cases hFl:0 < Fl
      ·have oi:yl W (W.alloc (E (ys 5 0 0 0 0 0 0 0 ⟨#[]⟩ next 0 Fl 0 0).toArray 46)):=eD _ _
       have hy2:World.cell? (W.alloc (E (ys 5 0 0 0 0 0 0 0 ⟨#[]⟩ next 0 Fl 0 0).toArray 46)) (J (w.heap.size + 1) 2) = some (H ty):=(M xE _ (eG (M xo) oi)).2.2.2.2.1
       have HEW:=Q (zK (M qV) oi)
       have HLW:=Q (zj (M HLV) oi)
       have kX:=Q (eG (M xo) oi)
       have jT:=Q (zb (M HTKV) oi htb)
       have H3W:Hid (w3.heap.size ≤ (W.alloc (E (ys 5 0 0 0 0 0 0 0 ⟨#[]⟩ next 0 Fl 0 0).toArray 46)).heap.size):=yK h3W0 oi.size
       have qf:Hid (World.rangeAt (W.alloc (E (ys 5 0 0 0 0 0 0 0 ⟨#[]⟩ next 0 Fl 0 0).toArray 46)) W.heap.size 0 (Ev.vs ⟨5,zCm,next,0,Fl,0,0⟩)):=zg W (Ev.vs ⟨5,zCm,next,0,Fl,0,0⟩) _
       have HXT:Hid (World.there (W.alloc (E (ys 5 0 0 0 0 0 0 0 ⟨#[]⟩ next 0 Fl 0 0).toArray 46)) W.heap.size 0 14):=zH W (Ev.vs ⟨5,zCm,next,0,Fl,0,0⟩) _
       have htb7:tb < (W.alloc (E (ys 5 0 0 0 0 0 0 0 ⟨#[]⟩ next 0 Fl 0 0).toArray 46)).heap.size:=yG htb oi.size
       have hebX:qt.heap.size ≤ W.heap.size:=(M xo).size
       have heb7:W.heap.size < (W.alloc (E (ys 5 0 0 0 0 0 0 0 ⟨#[]⟩ next 0 Fl 0 0).toArray 46)).heap.size:=by rw [ze]; omega
       have htbe:tb ≠ W.heap.size:=by omega
       have HXB:Hid (∃ xp,(W.alloc (E (ys 5 0 0 0 0 0 0 0 ⟨#[]⟩ next 0 Fl 0 0).toArray 46)).heap[W.heap.size]? = some (.cells xp 46 (0,0))):=⟨_,heap_alloc_new W _⟩
       have hebE:Hid (∀ g,v14.ownBlock = some g→g ≠ W.heap.size):=fun g hg=>by have:=((M qV).lt g hg).2; omega
       have hsf:=sfl
       clear oi
       go_wp2_with fail
       refine (cI ty _).mono ?_
       rintro e w' ⟨rfl,uc⟩
       rw [uc]
       clear uc w' q0 q3
       generalize (W.alloc (E (ys 5 0 0 0 0 0 0 0 ⟨#[]⟩ next 0 Fl 0 0).toArray 46)) = W7 at HEW HLW kX jT H3W qf HXT HXB htb7 heb7 hy2 ⊢
       generalize W.heap.size = eb at qf HXT HXB hebX heb7 htbe hebE ⊢
       clear hy2
       cases qz:ay ty
       ·have x0:W7.cell? (J eb 0) = some (H 5):=M qf 0 _ rfl
        have x1:W7.cell? (J eb 1) = some (H 0):=M qf 1 _ rfl
        have x2:W7.cell? (J eb 2) = some (H 0):=M qf 2 _ rfl
        have x3:W7.cell? (J eb 3) = some (H 0):=M qf 3 _ rfl
        have x4:W7.cell? (J eb 4) = some (H 0):=M qf 4 _ rfl
        have x5:W7.cell? (J eb 5) = some (H 0):=M qf 5 _ rfl
        have x6:W7.cell? (J eb 6) = some (H 0):=M qf 6 _ rfl
        have x7:W7.cell? (J eb 7) = some (yh 0):=M qf 7 _ rfl
        have x8:W7.cell? (J eb 8) = some (yi ⟨#[]⟩):=M qf 8 _ rfl
        have x9:W7.cell? (J eb 9) = some (H next):=M qf 9 _ rfl
        have x10:W7.cell? (J eb 10) = some (H 0):=M qf 10 _ rfl
        have x11:W7.cell? (J eb 11) = some (H Fl):=M qf 11 _ rfl
        have x12:W7.cell? (J eb 12) = some (H 0):=M qf 12 _ rfl
        have x13:W7.cell? (J eb 13) = some (H 0):=M qf 13 _ rfl
        have kN:=Q ((M HEW).alloc (E (ys 5 0 0 0 0 0 0 0 ⟨#[]⟩ next 0 Fl 0 0).toArray 46))
        have uS:Hid (yl W7 (W7.alloc (E (ys 5 0 0 0 0 0 0 0 ⟨#[]⟩ next 0 Fl 0 0).toArray 46))):=eD _ _
        have h3W:w3.heap.size ≤ W7.heap.size:=M H3W
        go_wp2_with (at_builtin; go_must (refine wpList_append_own _ rfl _ _ 38 rfl w3.heap.size 46 j0 _ 14 120 Tryz.underlying38 jk js kM hy2 rfl (by decide) v14 evs.length (evs.flatMap Ev.vs) rfl (M kN) (yn W7 0) 1 1 (Ev.vs ⟨5,zCm,next,0,Fl,0,0⟩) rfl rfl (bQ W7 (Ev.vs ⟨5,zCm,next,0,Fl,0,0⟩) 46) (one_ev ⟨5,zCm,next,0,Fl,0,0⟩) (by unfold maxLen; omega) (by omega) (yK h3W (M uS).size) ?_); intro v5 w9 un vu _; have HO9:=Q un; have HG9:=Q vu; clear un vu)
        have HE9:Hid (ERow w9 w3.heap.size v5 (evs ++ [⟨5,zCm,next,0,Fl,0,0⟩])):=by
         show w9.ownsRow _ _ _ _ (evs ++ [(⟨5,zCm,next,0,Fl,0,0⟩:Ev)]).length _
         rw [yM,List.flatMap_append]
         simpa using M HO9
        have HL9:=Q (World.ownsRow.kept (zj (M HLW) (M uS)) (M HG9) (zD (zj (M HLW) (M uS)) (M kN) (by decide)))
        have jH:Hid (yl qt w9):=by
         have z:=(M kX).trans ((M uS).mono (M kX).size)
         exact z.grown (M HG9) z.size (fun g hg=>yK hX3 ((M kN).lt g hg).1)
        clear HO9 HG9 kN uS
        go_wp2_with fail
        refine M jI _ _ ?_
        clear jI
        obtain ⟨z0,z1,y0,y1,y2,y3,y4,y5,y6,y7⟩:=M xE w9 (M jH)
        have qc:=zf (M HB).2.2.2.2.1 (M jH) uU
        obtain ⟨p0,x0,f0⟩:=zd qc (j:=0) (by omega)
        obtain ⟨p1,x1,f1⟩:=zd qc (j:=1) (by omega)
        have af:=(M HB).2.2.2.2.2.trans ((M jH).mono (M HB).2.2.2.2.2.size)
        have HWF:Hid (yl w ((w9.setCell (J (w.heap.size + 1 + 1) 0) (H (next + 1))).setCell (J (w.heap.size + 1 + 1) 1) (.slice am FL.length cm))):=(af.setCell (p:=(J (w.heap.size + 1 + 1) 0)) (show w.heap.size ≤ w.heap.size + 1 + 1 by omega) _).setCell (p:=(J (w.heap.size + 1 + 1) 1)) (show w.heap.size ≤ w.heap.size + 1 + 1 by omega) _
        have HEF:Hid (ERow ((w9.setCell (J (w.heap.size + 1 + 1) 0) (H (next + 1))).setCell (J (w.heap.size + 1 + 1) 1) (.slice am FL.length cm)) w.heap.size v5 (evs ++ [⟨5,zCm,next,0,Fl,0,0⟩])):=zA (bX (bX (M HE9) hS3 0 _) hS3 1 _) (by omega)
        have HLF:Hid (ORow ((w9.setCell (J (w.heap.size + 1 + 1) 0) (H (next + 1))).setCell (J (w.heap.size + 1 + 1) 1) (.slice am FL.length cm)) w.heap.size (.slice am FL.length cm) (FL)):=zA (br (br (M HL9) uU 0 _) uU 1 _) hXw
        have jQ:Hid (((w9.setCell (J (w.heap.size + 1 + 1) 0) (H (next + 1))).setCell (J (w.heap.size + 1 + 1) 1) (.slice am FL.length cm)).cell? (J (w.heap.size + 1 + 1) 0) = some (H (next + 1))):=(yI _ _ _ _ (zI (by decide))).trans (yJ _ _ _ x0)
        have qm:Hid (((w9.setCell (J (w.heap.size + 1 + 1) 0) (H (next + 1))).setCell (J (w.heap.size + 1 + 1) 1) (.slice am FL.length cm)).cell? (J (w.heap.size + 1 + 1) 1) = some (.slice am FL.length cm)):=yJ _ _ _ ((yI _ _ _ _ (zI (by decide))).trans x1)
        clear qc af y0 y1 y2 y3 y4 y5 y6 y7
        go_wp2_with fail
        have d0:=M jQ
        have d1:=M qm
        try simp only [Exit.inBlock,Exit.then]
        refine bodyPost_ret (by simp [results,Tryz.results44,go_sem,d0,d1]; try rfl) rfl ?_
        obtain ⟨rfl,kc,jG⟩:=M ux
        rw [if_neg (fun h=>by rw [qz] at h; cases h.2)] at kc
        rw [if_pos hFl,if_neg (by rw [qz]; simp),M HEVS] at jG
        subst kc jG
        exact ⟨_,_,rfl,M HLF,M HEF,M HWF⟩
       ·have xe0:W7.cell? (J eb 0) = some (H 5):=M qf 0 _ rfl
        have fe0:W7.frozen? (J eb 0) = false:=(M HXT 0 (by omega)).2
        have HEW8:Hid (ERow (W7.setCell (J eb 0) (H 4)) w3.heap.size v14 evs):=zw (M HEW) (fun e=>M hebE eb e.symm rfl) 0 _
        have HLW8:Hid (ORow (W7.setCell (J eb 0) (H 4)) qt.heap.size (.slice am FL.length cm) FL):=zw (M HLW) (zo (M HLW) (M HXB) (by decide)) 0 _
        have HBW8:Hid (yl qt (W7.setCell (J eb 0) (H 4))):=(M kX).setCell (p:=(J eb 0)) hebX _
        have HTKW8:Hid (World.rangeAt (W7.setCell (J eb 0) (H 4)) tb 0 (yt next s tt Fl li O)):=fun j u L=>(yI _ _ _ _ (fun e=>htbe (congrArg Addr.block e).symm)).trans (M jT j u L)
        have HXR8:Hid (World.rangeAt (W7.setCell (J eb 0) (H 4)) eb 0 (Ev.vs ⟨4,zCm,next,0,Fl,0,0⟩)):=by have:=range_set (j:=0) (u:=H 4) (M qf) (by rw [Ev.len]; decide); exact this
        have H3W8:Hid (w3.heap.size ≤ (W7.setCell (J eb 0) (H 4)).heap.size):=by have:=M H3W; simp only [World.setCell,Array.size_modify]; exact this
        have heb8:eb < (W7.setCell (J eb 0) (H 4)).heap.size:=by simp only [World.setCell,Array.size_modify]; exact heb7
        have htb8:tb < (W7.setCell (J eb 0) (H 4)).heap.size:=by simp only [World.setCell,Array.size_modify]; exact htb7
        clear HEW HLW kX jT qf H3W HXT HXB
        go_wp2_with fail
        clear xe0 fe0
        generalize (W7.setCell (J eb 0) (H 4)) = W8 at HEW8 HLW8 HBW8 HTKW8 HXR8 H3W8 heb8 htb8 ⊢
        have HLW:=Q (M HLW8)
        have jT:=Q (M HTKW8)
        refine zi (RZBA (fun f=>{ tmps:=#[.agg #[H next,.slice a l.length F],.agg (yu 1 s ty li X ii pr O).toArray,ym w 0,I (w.heap.size + 1) 0,I (w.heap.size + 1 + 1) 0,.slice none 0 0,f 6,H 0,H pk,Z,Z,Z,Z,Z,v14,I tb 0,.slice ae Ft.length ce,I eb 0,.slice (some (yn qt 0)) 0 0,ym w 1,.slice a l.length F,.slice a6 l.length c6,.agg #[H next,.slice a l.length F],.agg (yu 1 s ty li X ii pr O).toArray,H 0,H 0,.bool false,Z,Z,Z,Z,Z,Z,Z,Z,Z,.slice a6 l.length c6,I (w.heap.size + 1) 5,H ii,H pk,I (w.heap.size + 1) 0,H 1,.bool false,.bool false,Z,Z,Z,Z,Z,Z,Z,Z,Z,Z,Z,Z,Z,Z,Z,Z,.bool false,.bool false,Z,Z,Z,Z,Z,Z,Z,Z,Z,Z,Z,Z,Z,Z,Z,Z,.bool false,.bool false,Z,Z,Z,Z,Z,Z,Z,Z,Z,Z,Z,Z,Z,Z,Z,Z,Z,Z,Z,Z,Z,Z,Z,Z,Z,Z,Z,Z,Z,Z,Z,Z,Z,Z,Z,Z,Z,Z,Z,Z,Z,Z,Z,Z,Z,tm0,tm1,tm2,tm3,tm4,.slice (some (J be 0)) 1 1,.tuple #[.slice am FL.length cm,.agg (yt next s tt Fl li O).toArray,.slice ae Ft.length ce],.slice a6 l.length c6,.agg #[H next,.slice a l.length F],.agg (yu 1 s ty li X ii pr O).toArray,.agg (yt next s tt X li O).toArray,.tuple #[.slice am FL.length cm,.agg (yt next s tt Fl li O).toArray,.slice ae Ft.length ce],.slice am FL.length cm,.agg (yt next s tt Fl li O).toArray,.slice ae Ft.length ce,.slice (some (J be 0)) 1 1,.slice ae Ft.length ce,v14,I tb 3,H Fl,.bool true,I tb 0,H next,I tb 3,H Fl,.agg (ys 5 0 0 0 0 0 0 0 ⟨#[]⟩ next 0 Fl 0 0).toArray,I (w.heap.size + 1) 2,H ty,.bool true,I eb 0,f 0,f 1,f 2,f 3,f 4,f 5,Z,Z,Z,Z,Z,Z,Z,Z,Z,Z],defers:=[] }) (CZ (.slice am FL.length cm) (.agg (yt next s tt Fl li O).toArray)) W8 FL ⟨next,s,tt,Fl,li,O⟩ (.slice am FL.length cm)) (by kernel_rfl) ?_ ?_ ?_
        ·exact ⟨fun j=>if j = 6 then .slice am FL.length cm else Z,rfl,rz_start,ryb_start rfl⟩
        rotate_left
        ·rintro x hR V i op ⟨f,rfl,A,hA⟩ xk hx Y xq D
         have xv:=Q A
         have qu:=Q hA
         clear hA
         have xj:∀ (p:Addr) u,W8.cell? p = some u→V.cell? p = some u:=fun p u hu=>(A.bel.cell (yH W8 _ hu)).trans hu
         match i,Y with
         | 0,Y =>
          obtain rfl:=hD Y
          clear D A xk xj
          rw [if_pos (by rfl)];unfold Oper.wp;go_simp
          exact ⟨upd f 0 (.slice (some (yn V 0)) 0 0),by simp [upd],rz_0 (M xv) xq (fun _=>trivial),aG _ (M qu) (by decide) (by decide)⟩
         | 1,Y =>
          obtain rfl:=hD Y
          have g6:f 6 = .slice am FL.length cm:=(M qu).2 (zB xk 12 1 6 (by kernel_rfl) hx (by simp) xq)
          clear D A xk xj
          rw [if_pos (by rfl)];unfold Oper.wp;go_simp
          exact ⟨upd f 1 (.slice am FL.length cm),by simp [upd,g6],rz_val (M xv) 1 _ rfl (by decide) (by decide) (by decide) (by decide),aG _ (M qu) (by decide) (by decide)⟩
         | 2,Y =>
          obtain rfl:=hD Y
          have k0:x[0]? = some true:=D ⟨0,.data⟩ (by simp) rfl
          have g1:f 1 = .slice am FL.length cm:=A.c 1 (yc D 1 rfl)
          have n5:x[5]? = some false:=zB xk 12 2 5 (by kernel_rfl) hx (by simp) xq
          have vB:=Q (A.m0 k0 xq)
          have xZ:=A.bel
          have HRDV:Hid (∀ ad,am = some ad→∀ j u,(FL.flatMap Od.vs)[j]? = some u→V.cell? (ad.add j) = some u):=fun ad had=>by
           have h:=zT (zj (M HLW) xZ) (by omega)
           rw [had] at h
           exact rd_src h
          have HSLV:=Q (cD (M HLW))
          clear D A xk xj
          rw [if_pos (by rfl)]
          rcases M HSLV with h | ⟨ad,nn,cc,h⟩
          ·simp only [Value.slice.injEq] at h
           have hL:FL = []:=List.length_eq_zero_iff.1 h.2.1
           refine eC (.tmp 155) (.tmp 156) 26 rfl W8.heap.size 49 i0 6 Tryz.underlying26 uv (f 0) 0 [] rfl (M vB) (by show f 1 = _; rw [g1,h.1,h.2.1,h.2.2]) ?_
           exact ⟨upd f 2 (f 0),rfl,rz_2 (M xv) k0 xq n5 (fun _=>trivial) (by rw [hL]; exact M vB) (yO _ _),aG _ (M qu) (by decide) (by decide)⟩
          ·simp only [Value.slice.injEq] at h
           refine wp_append_own V (.tmp 155) (.tmp 156) 26 rfl W8.heap.size 49 i0 _ 6 56 Tryz.underlying26 uv uq uw uM rfl (by decide) (f 0) 0 [] rfl (M vB) ad FL.length cm (FL.flatMap Od.vs) (by show f 1 = _; rw [g1,h.1]) (by rw [zM Od.len]) (M HRDV ad h.1) (bh FL) (by unfold maxLen; omega) (by omega) xZ.size ?_
           intro v' w' xN ut _
           refine ⟨upd f 2 v',rfl,rz_2 (M xv) k0 xq n5 (fun _=>trivial) ?_ ut,aG _ (M qu) (by decide) (by decide)⟩
           show w'.ownsRow _ _ _ _ FL.length _
           simpa using xN
         | 3,Y =>
          obtain rfl:=hD Y
          have t0:=xj (J tb 0) _ (M jT 0 _ rfl)
          have t1:=xj (J tb 1) _ (M jT 1 _ rfl)
          have t2:=xj (J tb 2) _ (M jT 2 _ rfl)
          have t3:=xj (J tb 3) _ (M jT 3 _ rfl)
          have t4:=xj (J tb 4) _ (M jT 4 _ rfl)
          have t5:=xj (J tb 5) _ (M jT 5 _ rfl)
          clear D A xk xj
          rw [if_pos (by rfl)];unfold Oper.wp;go_simp
          exact ⟨upd f 3 (.agg (yt next s tt Fl li O).toArray),by simp [upd],rz_val (M xv) 3 _ rfl (by decide) (by decide) (by decide) (by decide),aG _ (M qu) (by decide) (by decide)⟩
         | 4,Y =>
          obtain rfl:=hD Y
          have g3:f 3 = .agg (yt next s tt Fl li O).toArray:=A.c 3 (yc D 3 rfl)
          have n5:x[5]? = some false:=zB xk 12 4 5 (by kernel_rfl) hx (by simp) xq
          clear D A xk xj
          rw [if_pos (by rfl)];unfold Oper.wp;go_simp
          exact ⟨upd f 4 (.slice (some (yn V 0)) 1 1),by simp [upd,g3],rz_4 (M xv) xq n5 (fun _=>trivial),aG _ (M qu) (by decide) (by decide)⟩
         | 5,Y =>
          obtain rfl:=hD Y
          have k2:x[2]? = some true:=D ⟨2,.data⟩ (by simp) rfl
          obtain ⟨b4,g4,xR,ue,uf,-⟩:=A.m4 (yc D 4 rfl) xq
          have vO:=Q (A.m2 k2 xq)
          have xZ:=A.bel
          have h6:x[6]? = some false:=zB xk 12 5 6 (by kernel_rfl) hx (by simp) xq
          have uQ:Hid (∀ j u,(Od.vs ⟨next,s,tt,Fl,li,O⟩)[j]? = some u→V.cell? (((J b4 0):Addr).add j) = some u):=fun j u hu=>by
           have:=uf j u hu
           rw [Addr.add_mid]; exact this
          clear D A xk uf xj
          rw [if_pos (by rfl)]
          refine wp_append_own V (.tmp 157) (.tmp 159) 26 rfl W8.heap.size 49 i0 _ 6 56 Tryz.underlying26 uv uq uw uM rfl (by decide) (f 2) FL.length (FL.flatMap Od.vs) rfl (M vO) (J b4 0) 1 1 (Od.vs ⟨next,s,tt,Fl,li,O⟩) (by show f 4 = _; exact g4) rfl (M uQ) (one_od ⟨next,s,tt,Fl,li,O⟩) (by unfold maxLen; omega) (by omega) xZ.size ?_
          intro v' w' xN ut _
          refine ⟨upd f 5 v',rfl,rz_5 (M xv) k2 xq (fun _=>trivial) ?_ ut,ryb_write v' (M qu) h6⟩
          show w'.ownsRow _ _ _ _ (FL ++ [(⟨next,s,tt,Fl,li,O⟩:Od)]).length _
          rw [yM,List.flatMap_append]
          simpa using xN
         | 6,Y =>
          obtain rfl:=hD Y
          have k5:x[5]? = some true:=D ⟨5,.data⟩ (by simp) rfl
          clear D A xk xj
          rw [if_pos (by rfl)];unfold Oper.wp;go_simp
          exact ⟨upd f 6 (f 5),by simp [upd],rz_val (M xv) 6 _ trivial (by decide) (by decide) (by decide) (by decide),ryb_lay xq⟩
         | n + 7,Y=>simp at Y
        ·rintro x hR V ⟨f,rfl,A,hA⟩ hx xK
         have xm:=zL xK hx (by kernel_rfl)
         have e6:f 6 = f 5:=hA.1 (xm 6 (by simp))
         have hO5:=A.m5 (xm 5 (by simp))
         have xZ:=A.bel
         obtain ⟨aL,cL,hvL⟩:=zO hO5
         rw [hvL] at hO5 e6
         generalize (FL ++ [(⟨next,s,tt,Fl,li,O⟩:Od)]).length = nL at hO5 e6
         simp only [e6]
         have HLW:=Q (zA hO5 (show qt.heap.size ≤ W8.heap.size from (M HBW8).size))
         have HEW:=Q (zK (M HEW8) xZ)
         have kX:=Q (eG (M HBW8) xZ)
         have qf:=Q (zb (M HXR8) xZ heb8)
         have H3W:Hid (w3.heap.size ≤ V.heap.size):=yK (M H3W8) xZ.size
         clear A hA xm xK hx hO5 xZ e6 hvL
         generalize f 0 = tn0,f 1 = tn1,f 2 = tn2,f 3 = tn3,f 4 = tn4,f 5 = tn5
         obtain ⟨x0,x1,x2,x3,x4,x5,x6,x7,x8,x9,x10,x11,x12,x13⟩:=yC (M qf)
         have kN:=Q ((M HEW).alloc (E (ys 4 0 0 0 0 0 0 0 ⟨#[]⟩ next 0 Fl 0 0).toArray 46))
         have uS:Hid (yl V (V.alloc (E (ys 4 0 0 0 0 0 0 0 ⟨#[]⟩ next 0 Fl 0 0).toArray 46))):=eD _ _
         have h3W:w3.heap.size ≤ V.heap.size:=M H3W
         go_wp2_with (at_builtin; go_must (refine wpList_append_own _ rfl _ _ 38 rfl w3.heap.size 46 j0 _ 14 120 Tryz.underlying38 jk js kM hy2 rfl (by decide) v14 evs.length (evs.flatMap Ev.vs) rfl (M kN) (yn V 0) 1 1 (Ev.vs ⟨4,zCm,next,0,Fl,0,0⟩) rfl rfl (bQ V (Ev.vs ⟨4,zCm,next,0,Fl,0,0⟩) 46) (one_ev ⟨4,zCm,next,0,Fl,0,0⟩) (by unfold maxLen; omega) (by omega) (yK h3W (M uS).size) ?_); intro v5 w9 un vu _; have HO9:=Q un; have HG9:=Q vu; clear un vu)
         have HE9:Hid (ERow w9 w3.heap.size v5 (evs ++ [⟨4,zCm,next,0,Fl,0,0⟩])):=by
          show w9.ownsRow _ _ _ _ (evs ++ [(⟨4,zCm,next,0,Fl,0,0⟩:Ev)]).length _
          rw [yM,List.flatMap_append]
          simpa using M HO9
         have HL9:=Q (World.ownsRow.kept (zj (M HLW) (M uS)) (M HG9) (zD (zj (M HLW) (M uS)) (M kN) (by decide)))
         have jH:Hid (yl qt w9):=by
          have z:=(M kX).trans ((M uS).mono (M kX).size)
          exact z.grown (M HG9) z.size (fun g hg=>yK hX3 ((M kN).lt g hg).1)
         clear HO9 HG9 kN uS
         go_wp2_with fail
         refine M jI _ _ ?_
         clear jI
         obtain ⟨z0,z1,y0,y1,y2,y3,y4,y5,y6,y7⟩:=M xE w9 (M jH)
         have qc:=zf (M HB).2.2.2.2.1 (M jH) uU
         obtain ⟨p0,x0,f0⟩:=zd qc (j:=0) (by omega)
         obtain ⟨p1,x1,f1⟩:=zd qc (j:=1) (by omega)
         have af:=(M HB).2.2.2.2.2.trans ((M jH).mono (M HB).2.2.2.2.2.size)
         have HWF:Hid (yl w ((w9.setCell (J (w.heap.size + 1 + 1) 0) (H (next + 1))).setCell (J (w.heap.size + 1 + 1) 1) (.slice aL nL cL))):=(af.setCell (p:=(J (w.heap.size + 1 + 1) 0)) (show w.heap.size ≤ w.heap.size + 1 + 1 by omega) _).setCell (p:=(J (w.heap.size + 1 + 1) 1)) (show w.heap.size ≤ w.heap.size + 1 + 1 by omega) _
         have HEF:Hid (ERow ((w9.setCell (J (w.heap.size + 1 + 1) 0) (H (next + 1))).setCell (J (w.heap.size + 1 + 1) 1) (.slice aL nL cL)) w.heap.size v5 (evs ++ [⟨4,zCm,next,0,Fl,0,0⟩])):=zA (bX (bX (M HE9) hS3 0 _) hS3 1 _) (by omega)
         have HLF:Hid (ORow ((w9.setCell (J (w.heap.size + 1 + 1) 0) (H (next + 1))).setCell (J (w.heap.size + 1 + 1) 1) (.slice aL nL cL)) w.heap.size (.slice aL nL cL) (FL ++ [⟨next,s,tt,Fl,li,O⟩])):=zA (br (br (M HL9) uU 0 _) uU 1 _) hXw
         have jQ:Hid (((w9.setCell (J (w.heap.size + 1 + 1) 0) (H (next + 1))).setCell (J (w.heap.size + 1 + 1) 1) (.slice aL nL cL)).cell? (J (w.heap.size + 1 + 1) 0) = some (H (next + 1))):=(yI _ _ _ _ (zI (by decide))).trans (yJ _ _ _ x0)
         have qm:Hid (((w9.setCell (J (w.heap.size + 1 + 1) 0) (H (next + 1))).setCell (J (w.heap.size + 1 + 1) 1) (.slice aL nL cL)).cell? (J (w.heap.size + 1 + 1) 1) = some (.slice aL nL cL)):=yJ _ _ _ ((yI _ _ _ _ (zI (by decide))).trans x1)
         clear qc af y0 y1 y2 y3 y4 y5 y6 y7
         go_wp2_with fail
         have d0:=M jQ
         have d1:=M qm
         try simp only [Exit.inBlock,Exit.then]
         refine bodyPost_ret (by simp [results,Tryz.results44,go_sem,d0,d1]; try rfl) rfl ?_
         obtain ⟨rfl,kc,jG⟩:=M ux
         rw [if_pos ⟨hFl,qz⟩] at kc
         rw [if_pos hFl,if_pos qz,M HEVS] at jG
         subst kc jG
         exact ⟨_,_,rfl,M HLF,M HEF,M HWF⟩
      ·go_wp2_with fail
       refine M jI _ _ ?_
       clear jI
       obtain ⟨z0,z1,y0,y1,y2,y3,y4,y5,y6,y7⟩:=M xE W (M xo)
       have qc:=zf (M HB).2.2.2.2.1 (M xo) uU
       obtain ⟨p0,x0,f0⟩:=zd qc (j:=0) (by omega)
       obtain ⟨p1,x1,f1⟩:=zd qc (j:=1) (by omega)
       have af:=(M HB).2.2.2.2.2.trans ((M xo).mono (M HB).2.2.2.2.2.size)
       have HWF:Hid (yl w ((W.setCell (J (w.heap.size + 1 + 1) 0) (H (next + 1))).setCell (J (w.heap.size + 1 + 1) 1) (.slice am FL.length cm))):=(af.setCell (p:=(J (w.heap.size + 1 + 1) 0)) (show w.heap.size ≤ w.heap.size + 1 + 1 by omega) _).setCell (p:=(J (w.heap.size + 1 + 1) 1)) (show w.heap.size ≤ w.heap.size + 1 + 1 by omega) _
       have HEF:Hid (ERow ((W.setCell (J (w.heap.size + 1 + 1) 0) (H (next + 1))).setCell (J (w.heap.size + 1 + 1) 1) (.slice am FL.length cm)) w.heap.size v14 (evs)):=zA (bX (bX (M qV) hS3 0 _) hS3 1 _) (by omega)
       have HLF:Hid (ORow ((W.setCell (J (w.heap.size + 1 + 1) 0) (H (next + 1))).setCell (J (w.heap.size + 1 + 1) 1) (.slice am FL.length cm)) w.heap.size (.slice am FL.length cm) (FL)):=zA (br (br (M HLV) uU 0 _) uU 1 _) hXw
       have jQ:Hid (((W.setCell (J (w.heap.size + 1 + 1) 0) (H (next + 1))).setCell (J (w.heap.size + 1 + 1) 1) (.slice am FL.length cm)).cell? (J (w.heap.size + 1 + 1) 0) = some (H (next + 1))):=(yI _ _ _ _ (zI (by decide))).trans (yJ _ _ _ x0)
       have qm:Hid (((W.setCell (J (w.heap.size + 1 + 1) 0) (H (next + 1))).setCell (J (w.heap.size + 1 + 1) 1) (.slice am FL.length cm)).cell? (J (w.heap.size + 1 + 1) 1) = some (.slice am FL.length cm)):=yJ _ _ _ ((yI _ _ _ _ (zI (by decide))).trans x1)
       clear qc af y0 y1 y2 y3 y4 y5 y6 y7
       go_wp2_with fail
       have d0:=M jQ
       have d1:=M qm
       try simp only [Exit.inBlock,Exit.then]
       refine bodyPost_ret (by simp [results,Tryz.results44,go_sem,d0,d1]; try rfl) rfl ?_
       obtain ⟨rfl,kc,jG⟩:=M ux
       rw [if_neg (fun h=>by have:=h.1; omega)] at kc
       rw [if_neg (by omega),List.append_nil,M HEVS] at jG
       subst kc jG
       exact ⟨_,_,rfl,M HLF,M HEF,M HWF⟩
     have HT2':=Q vh
     clear vh hK
     have h3Y:w3.heap.size ≤ ho.heap.size:=by have:=(M vZ).lt be rfl; omega
     rcases (M qX).2 with ⟨hv,h0⟩ | ⟨gt,ct,cut,hv,_⟩
     ·simp only [Value.slice.injEq] at hv
      obtain ⟨rfl,oT,rfl⟩:=hv
      obtain rfl:=List.length_eq_zero_iff.1 oT
      go_wp2_with (at_builtin; go_must (refine wpList_append_own_none rfl _ _ 38 rfl w3.heap.size 46 j0 14 Tryz.underlying38 jk (.slice (some (J be 0)) 1 1) 1 _ rfl (M vZ) rfl ?_))
      exact M HT2' _ _ (M vZ) (M HO6) (M oK) (M vI) hlt6 h3Y
     ·simp only [Value.slice.injEq] at hv
      obtain ⟨rfl,-,rfl⟩:=hv
      have uQ:=Q (row_src (M qX))
      go_wp2_with (at_builtin; go_must (refine wpList_append_own _ rfl _ _ 38 rfl w3.heap.size 46 j0 _ 14 120 Tryz.underlying38 jk js kM hy2 rfl (by decide) (.slice (some (J be 0)) 1 1) 1 _ rfl (M vZ) (J gt 0) Ft.length ce (Ft.flatMap Ev.vs) rfl (by rw [zM Ev.len]) (M uQ) (one_allE Ft) (by unfold maxLen; omega) (by omega) h3Y ?_); intro v14 w7 hown7 hg7 _; have HO7:=Q hown7; have HG7:=Q hg7; clear hown7 hg7)
      have HE7:Hid (ERow w7 w3.heap.size v14 (⟨1,⟨1,s,ty,li,X,ii,pr,cutB O⟩,next,0,0,0,0⟩ :: Ft)):=by
       show w7.ownsRow _ _ _ _ (⟨1,⟨1,s,ty,li,X,ii,pr,cutB O⟩,next,0,0,0,0⟩ :: Ft:List Ev).length _
       have h:=M HO7
       rw [List.length_cons,Nat.add_comm]
       simpa using h
      exact M HT2' _ _ (M HE7) (World.ownsRow.kept (M HO6) (M HG7) (zD (M HO6) (M vZ) (by decide))) (fun j u L=>(yN (a:=(J tb (0 + j))) ((M HG7).block tb hlt6 (zo (M vZ) (M HTX) (by decide)))).trans (M oK j u L)) ((M vI).grown (M HG7) (M vI).size (fun g hg=>yK hX3 ((M vZ).lt g hg).1)) (yG hlt6 (M HG7).size) (yK h3Y (M HG7).size)
   ·exact absurd (M um).2 (by decide)
   ·exact absurd (M um).2 (by decide)
   ·exact absurd (M um).2 (by decide)
  ·have kK:=uR
   have qz:(rr == 0) = false:=by rw [xa]; exact uR
   have ux:Hid (sN = next∧sL = l∧sE = [⟨2,⟨kk,s,ty,li,X,ii,pr,cutB O⟩,0,0,0,0,rr⟩]):=⟨by rw [M uB,if_neg (fun h=>uR h.1)],by rw [M uo,if_neg uR],by rw [M uA,if_neg uR]⟩
   skip
   exact absurd (M um).1 kK
 rcases M uW with hs | ⟨ad,nn,cc,hs⟩
 ·simp only [Value.slice.injEq] at hs
  obtain ⟨rfl,oT,rfl⟩:=hs
  obtain rfl:=List.length_eq_zero_iff.1 oT
  obtain ⟨z0,z1,y0,y1,y2,y3,y4,y5,y6,y7⟩:=M xE qt (Below.refl _ _)
  have vB:=Q (World.ownsRow_made (base:=qt.heap.size) (e:=49) (size:=6) qt #[] 0 tg (by decide) rfl)
  have hzX:World.cell? (qt.alloc (E #[] 49)) (yn w 1) = some (.slice none 0 0):=(M xE _ (eD _ _)).2.1
  have kD:=Q HT
  clear HT hK
  go_wp2_with (at_builtin; go_must (refine wpList_append_own_none rfl _ _ 26 rfl qt.heap.size 49 i0 6 Tryz.underlying26 uv (.slice (some (yn qt 0)) 0 0) 0 [] rfl (M vB) rfl ?_))
  exact M kD _ _ _ (M vB) (eD _ _)
 ·simp only [Value.slice.injEq] at hs
  obtain ⟨rfl,rfl,rfl⟩:=hs
  obtain ⟨z0,z1,y0,y1,y2,y3,y4,y5,y6,y7⟩:=M xE qt (Below.refl _ _)
  have uF:Hid (yl qt (qt.alloc (E #[] 49))):=eD _ _
  have vB:=Q (World.ownsRow_made (base:=qt.heap.size) (e:=49) (size:=6) qt #[] 0 tg (by decide) rfl)
  have hzX:World.cell? (qt.alloc (E #[] 49)) (yn w 1) = some (.slice (some ad) l.length F):=(M xE _ (M uF)).2.1
  have uQ:Hid (∀ j u,(l.flatMap Od.vs)[j]? = some u→World.cell? (qt.alloc (E #[] 49)) (ad.add j) = some u):=rd_src (zh (M HR) ((M HB).2.2.2.2.2.trans ((M uF).mono (M HB).2.2.2.2.2.size)) tg)
  have kD:=Q HT
  clear HT hK
  go_wp2_with (at_builtin; go_must (refine wpList_append_own _ rfl _ _ 26 rfl qt.heap.size 49 i0 _ 6 56 Tryz.underlying26 uv uq uw uM rfl (by decide) (.slice (some (yn qt 0)) 0 0) 0 [] rfl (M vB) ad l.length F (l.flatMap Od.vs) rfl (by rw [zM Od.len]) (M uQ) (bh l) (by unfold maxLen; omega) (by omega) (M uF).size ?_); intro v1 w1 uP oo _; have uZ:=Q uP; have kg:=Q oo; clear uP oo)
  have pU:Hid (ORow w1 qt.heap.size v1 l):=by
   show w1.ownsRow _ _ _ _ l.length _
   simpa using M uZ
  obtain ⟨a6,c6,hv⟩:=zO (M pU)
  subst hv
  exact M kD _ _ _ (M pU) ((M uF).grown (M kg) (M uF).size (fun k hk=>((M vB).lt k hk).1))
end Go.Proofs.YtbakanofkghmiaaGreat
