/-
  A command done on a book, by the model: proved by walking the function.
-/
import Derived.Test.YtbakanofkghmiaaGreatQj40
set_option linter.unusedVariables false
set_option maxHeartbeats 6400000
set_option maxRecDepth 100000
namespace Go.Proofs.YtbakanofkghmiaaGreat
open Go.RowKit
theorem l04Step_a (next:Int) (vb:Value) (l:List Od) (c:Cm) (w:World) (qY:refR next l c = 0∧c.k = 1) (hr:RdR Od.vs 6 w vb l) (hs:SlOk vb) (hg:GoodL l) (uJ:∀ x ∈ l,x.side = 1 ∨ x.side = 2) (h0:0 ≤ next) (Q:next ≤ 1000000) (ht:c.g.size ≤ maxLen) :
  Calls Tryz.prog 44 #[.agg #[H next,vb],cmV c] w fun e w'=>∃ vq vg,e = ym (.tuple #[.agg #[H (stN next l c),vq],vg])∧ORow w' w.heap.size vq (stL next l c)∧ERow w' w.heap.size vg (stE next l c)∧yn w w':=by
 obtain ⟨i0,uG,uF,uI,uT⟩:=info_parts Tryz.infoOrder
 obtain ⟨j0,jg,pT,hy1,hy2⟩:=info_parts infoEv
 have HR:=Y hr
 have vP:=Y hs
 have HG:=Y hg
 have qn:=Y ht
 have vN:=hg.len
 have uH:Hid (0 ≤ next∧next ≤ 1000000):=⟨h0,Q⟩
 have uR:=Y (fun (W:World) hW=>dH next vb l c W hW hs hg uJ ht)
 rw [ref_eq] at uR
 have HK:=Y (@cY next l c)
 have HQ:=Y (@cC next l c)
 have qM:=Y (@ref_id next l c)
 have jC:=Y (@ref_newS next l c)
 have uD:=Y qY
 clear qY
 have vk:Hid (stN next l c = if refR next l c = 0∧c.k = 1 then next + 1 else next):=rfl
 have uE:=Y (stL.eq_1 next l c)
 have vj:=Y (stE.eq_1 next l c)
 have oD:=Y (fun W=>dG c W ht)
 have qN:=Y (fun (a:Option Addr) (n A:Nat) (W:World)=>dm next a n A c W)
 have kh:=Y (fun (v:Value) (W:World) hr hs hp jp jq=>dl v l c next W hr hg hs hp jp jq)
 obtain ⟨a,A,rfl,vE,hc⟩:=hr
 obtain ⟨kk,s,F,li,L,ii,pr,O⟩:=c
 generalize stN next l ⟨kk,s,F,li,L,ii,pr,O⟩ = sN at vk ⊢
 generalize stL next l ⟨kk,s,F,li,L,ii,pr,O⟩ = sL at uE ⊢
 generalize stE next l ⟨kk,s,F,li,L,ii,pr,O⟩ = sE at vj ⊢
 generalize refR next l ⟨kk,s,F,li,L,ii,pr,O⟩ = rr at uR vk uE vj HK HQ qM jC uD
 unfold cmV at uR qN ⊢
 simp only at uR vk uE vj HK HQ qM jC oD qN kh qn uD ⊢
 have HB:=Y (box3 w [H next,.slice a l.length A] (yx kk s F li L ii pr O) [H 0,.slice none 0 0] 28 43 28)
 clear hs hg uJ h0 Q ht hc vE
 go_enter Tryz.func44,Tryz.ntmps44
 refine eI fun hR xv=>?_
 go_wp2_with fail
 refine U xv _ _ ?_
 clear xv
 change Hid ((((w.alloc (E #[H next,.slice a l.length A] 28)).alloc (E (yx kk s F li L ii pr O).toArray 43)).alloc (E #[H 0,.slice none 0 0] 28)).heap.size = w.heap.size + 3∧World.rangeAt (((w.alloc (E #[H next,.slice a l.length A] 28)).alloc (E (yx kk s F li L ii pr O).toArray 43)).alloc (E #[H 0,.slice none 0 0] 28)) w.heap.size 0 [H next,.slice a l.length A]∧World.rangeAt (((w.alloc (E #[H next,.slice a l.length A] 28)).alloc (E (yx kk s F li L ii pr O).toArray 43)).alloc (E #[H 0,.slice none 0 0] 28)) (w.heap.size + 1) 0 (yx kk s F li L ii pr O)∧World.rangeAt (((w.alloc (E #[H next,.slice a l.length A] 28)).alloc (E (yx kk s F li L ii pr O).toArray 43)).alloc (E #[H 0,.slice none 0 0] 28)) (w.heap.size + 1 + 1) 0 [H 0,.slice none 0 0]∧World.there (((w.alloc (E #[H next,.slice a l.length A] 28)).alloc (E (yx kk s F li L ii pr O).toArray 43)).alloc (E #[H 0,.slice none 0 0] 28)) (w.heap.size + 1 + 1) 0 2∧yn w (((w.alloc (E #[H next,.slice a l.length A] 28)).alloc (E (yx kk s F li L ii pr O).toArray 43)).alloc (E #[H 0,.slice none 0 0] 28))) at HB
 generalize (((w.alloc (E #[H next,.slice a l.length A] 28)).alloc (E (yx kk s F li L ii pr O).toArray 43)).alloc (E #[H 0,.slice none 0 0] 28)) = hb at HB ⊢
 have xM:Hid (∀ W:World,yn hb W→W.cell? (yq w 0) = some (H next)∧W.cell? (yq w 1) = some (.slice a l.length A)∧W.cell? (J (w.heap.size + 1) 0) = some (H kk)∧W.cell? (J (w.heap.size + 1) 1) = some (H s)∧W.cell? (J (w.heap.size + 1) 2) = some (H F)∧W.cell? (J (w.heap.size + 1) 3) = some (H li)∧W.cell? (J (w.heap.size + 1) 4) = some (H L)∧W.cell? (J (w.heap.size + 1) 5) = some (H ii)∧W.cell? (J (w.heap.size + 1) 6) = some (yj pr)∧W.cell? (J (w.heap.size + 1) 7) = some (yk O)):=fun W hW =>
  have p:=zb (U HB).2.1 hW (by have:=(U HB).1; omega)
  have q:=zb (U HB).2.2.1 hW (by have:=(U HB).1; omega)
  ⟨p 0 _ rfl,p 1 _ rfl,q 0 _ rfl,q 1 _ rfl,q 2 _ rfl,q 3 _ rfl,q 4 _ rfl,q 5 _ rfl,q 6 _ rfl,q 7 _ rfl⟩
 have vS:w.heap.size + 1 + 1 < hb.heap.size:=by have:=(U HB).1; omega
 refine wp_seq_k fun hR hK=>?_
 have HT:∀ (a6:Option Addr) (c6:Nat) (w1:World),ORow w1 hb.heap.size (.slice a6 l.length c6) l→yn hb w1→hR { tmps:=#[.agg #[H next,.slice a l.length A],.agg (yx kk s F li L ii pr O).toArray,yp w 0,I (w.heap.size + 1) 0,I (w.heap.size + 1 + 1) 0,.slice none 0 0,.slice a6 l.length c6,M,M,M,M,M,M,M,M,M,M,M,.slice (some (yq hb 0)) 0 0,yp w 1,.slice a l.length A,.slice a6 l.length c6,M,M,M,M,M,M,M,M,M,M,M,M,M,M,M,M,M,M,M,M,M,M,M,M,M,M,M,M,M,M,M,M,M,M,M,M,M,M,M,M,M,M,M,M,M,M,M,M,M,M,M,M,M,M,M,M,M,M,M,M,M,M,M,M,M,M,M,M,M,M,M,M,M,M,M,M,M,M,M,M,M,M,M,M,M,M,M,M,M,M,M,M,M,M,M,M,M,M,M,M,M,M,M,M,M,M,M,M,M,M,M,M,M,M,M,M,M,M,M,M,M,M,M,M,M,M,M,M,M,M,M,M,M,M,M,M,M,M,M,M,M,M,M,M,M,M,M,M,M],defers:=[] } w1:=by
  intro a6 c6 w1 vZ xV
  refine hK _ _ ?_
  clear hK
  have vn:=Y vZ
  have xU:=Y xV
  clear vZ xV
  obtain ⟨z0,z1,y0,y1,y2,y3,y4,y5,y6,y7⟩:=U xM w1 (U xU)
  refine eI fun hR xv=>?_
  go_wp2_with fail
  refine (U uR w1 (zn (U HR) ((U HB).2.2.2.2.2.trans ((U xU).mono (U HB).2.2.2.2.2.size)) tg)).mono ?_
  rintro e w2 ⟨rfl,xX⟩
  have vU:=Y (zm (U vn) xX)
  have xE:=Y (eH (U xU) xX)
  clear z0 z1 y0 y1 y2 y3 y4 y5 y6 y7 xX vn
  obtain ⟨z0,z1,y0,y1,y2,y3,y4,y5,y6,y7⟩:=U xM w2 (U xE)
  have vV:=Y (zg (U HB).2.2.2.2.1 (U xE) vS)
  have oI:w.heap.size + 1 + 1 < w2.heap.size:=yK vS (U xE).size
  have xK:=Y ((U HB).2.2.2.2.2.trans ((U xE).mono (U HB).2.2.2.2.2.size))
  have hXw:w.heap.size ≤ hb.heap.size:=by omega
  have hX2:hb.heap.size ≤ w2.heap.size:=(U xE).size
  have oq:=hX2
  by_cases vi:rr = 0
  ·subst vi
   have pK:=U HK rfl
   rcases pK with rfl | rfl | rfl | rfl
   ·have hq:=U HQ rfl rfl
    obtain ⟨hss,hpp,htt,hii⟩:=U jC rfl rfl
    have HMTT:=Y (fun (v:Value) (W:World) hr=>U kh v W hr hss hpp (by omega) hq.2)
    have oU:=Y (cN (c:=⟨1,s,F,li,L,ii,pr,O⟩) (id:=next) 21 l L [] (U HG) (by omega) hq.2)
    have HMF:=Y (dw (c:=⟨1,s,F,li,L,ii,pr,O⟩) (id:=next) 21 l L [])
    have uK:Hid (sN = next + 1∧sL = (if 0 < (matL ⟨1,s,F,li,L,ii,pr,O⟩ next 21 l L []).2.1∧aO F = true then (matL ⟨1,s,F,li,L,ii,pr,O⟩ next 21 l L []).1 ++ [⟨next,s,tkS pr,(matL ⟨1,s,F,li,L,ii,pr,O⟩ next 21 l L []).2.1,li,O⟩] else (matL ⟨1,s,F,li,L,ii,pr,O⟩ next 21 l L []).1)∧sE = ⟨1,⟨1,s,F,li,L,ii,pr,cutB O⟩,next,0,0,0,0⟩ :: (matL ⟨1,s,F,li,L,ii,pr,O⟩ next 21 l L []).2.2 ++ (if 0 < (matL ⟨1,s,F,li,L,ii,pr,O⟩ next 21 l L []).2.1 then [⟨if aO F = true then 4 else 5,zCm,next,0,(matL ⟨1,s,F,li,L,ii,pr,O⟩ next 21 l L []).2.1,0,0⟩] else [])):=⟨by rw [U vk,if_pos ⟨rfl,rfl⟩],by rw [U uE,if_pos rfl,if_pos rfl]; exact acc_l hpp,by rw [U vj,if_pos rfl,if_pos rfl,accE,cutB_tag htt,hii]⟩
    generalize matL ⟨1,s,F,li,L,ii,pr,O⟩ next 21 l L [] = ty at uK HMTT oU HMF
    obtain ⟨FL,Fl,Ft⟩:=ty
    simp only at uK HMTT oU HMF
    generalize tkS pr = tt at uK HMTT qN
    have hFL:=(U oU).1.len
    have hFt:Ft.length ≤ 21:=by simpa using U HMF
    obtain ⟨hn0,hn1⟩:=U uH
    clear vk uE vj HQ qM HK jC kh hpp htt hii hss oU HMF
    go_wp2_with fail
    refine U xv _ _ ?_
    clear xv
    refine eI fun hR xv=>?_
    go_wp2_with fail
    refine (dn _ l ii w2 (zN (U vU) (by omega))).mono ?_
    generalize plc l ii = pk
    rintro e w3 ⟨rfl,um⟩
    have qA:=Y (zm (U vU) um)
    have xQ:=Y (eH (U xE) um)
    clear um z0 z1 y0 y1 y2 y3 y4 y5 y6 y7 vV xK oI oq
    have vV:=Y (zg (U HB).2.2.2.2.1 (U xQ) vS)
    have oI:w.heap.size + 1 + 1 < w3.heap.size:=yK vS (U xQ).size
    have xK:=Y ((U HB).2.2.2.2.2.trans ((U xQ).mono (U HB).2.2.2.2.2.size))
    have oq:hb.heap.size ≤ w3.heap.size:=(U xQ).size
    obtain ⟨z0,z1,y0,y1,y2,y3,y4,y5,y6,y7⟩:=U xM w3 (U xQ)
    have HZ0:=Y z0
    have HZ1:=Y z1
    have HY0:=Y y0
    have HY1:=Y y1
    have HY2:=Y y2
    have HY3:=Y y3
    have HY4:=Y y4
    have oo:=Y y5
    have HY6:=Y y6
    have HY7:=Y y7
    go_wp2_with fail
    refine U xv _ _ ?_
    clear xv
    refine eI fun hR xv=>?_
    go_wp2_with fail
    refine U xv _ _ ?_
    clear xv
    refine eI fun hR xv=>?_
    clear z0 z1 y0 y1 y2 y3 y4 y5 y6 y7
    refine zj (RYBA (fun f=>{ tmps:=#[.agg #[H next,.slice a l.length A],.agg (yx 1 s F li L ii pr O).toArray,yp w 0,I (w.heap.size + 1) 0,I (w.heap.size + 1 + 1) 0,.slice none 0 0,.slice a6 l.length c6,H 0,H pk,M,M,M,M,M,f 6,M,M,M,.slice (some (yq hb 0)) 0 0,yp w 1,.slice a l.length A,.slice a6 l.length c6,.agg #[H next,.slice a l.length A],.agg (yx 1 s F li L ii pr O).toArray,H 0,H 0,.bool false,M,M,M,M,M,M,M,M,M,.slice a6 l.length c6,I (w.heap.size + 1) 5,H ii,H pk,I (w.heap.size + 1) 0,H 1,.bool false,.bool false,M,M,M,M,M,M,M,M,M,M,M,M,M,M,M,M,.bool false,.bool false,M,M,M,M,M,M,M,M,M,M,M,M,M,M,M,M,.bool false,.bool false,M,M,M,M,M,M,M,M,M,M,M,M,M,M,M,M,M,M,M,M,M,M,M,M,M,M,M,M,M,M,M,M,M,M,M,M,M,M,M,M,M,M,M,M,M,f 0,f 1,f 2,f 3,f 4,f 5,M,M,M,M,M,M,M,M,M,M,M,M,M,M,M,M,M,M,M,M,M,M,M,M,M,M,M,M,M,M,M,M,M,M,M,M,M,M,M,M],defers:=[] }) (CX [.agg (yx 1 s F li L ii pr O).toArray,.agg (yx 1 s F li L ii pr (cutB O)).toArray,yp w 0,H next,.agg (yv 1 1 s F li L ii pr (cutB O) next 0 0 0 0).toArray,M,M] [] (w3.heap.size) 0 [] ([])) 5 (M) (fun f W=>∃ be,f 5 = .slice (some (J be 0)) 1 1∧ERow W w3.heap.size (.slice (some (J be 0)) 1 1) [⟨1,⟨1,s,F,li,L,ii,pr,cutB O⟩,next,0,0,0,0⟩]∧yn hb W∧ORow W hb.heap.size (.slice a6 l.length c6) l) w3) (by kernel_rfl) ?_ ?_ ?_
    ·exact ⟨fun _=>M,rfl,ry_start (by decide),ryb_start rfl⟩
    rotate_left
    ·rintro x xn V i op ⟨f,rfl,K,hA⟩ xp hx Z xz D
     have xA:=Y K
     have qG:=Y hA
     clear hA
     have xo:x[5]? = some false→∀ (p:Addr) u,w3.cell? p = some u→V.cell? p = some u:=fun hn p u hu=>((K.b hn).cell (yL w3 _ hu)).trans hu
     match i,Z with
     | 0,Z =>
      obtain rfl:=ya Z
      have hn:x[5]? = some false:=zz xp 12 0 5 (by kernel_rfl) hx (by simp) xz
      have y0:=xo hn (J (w.heap.size + 1) 0) _ (U HY0)
      have y1:=xo hn (J (w.heap.size + 1) 1) _ (U HY1)
      have y2:=xo hn (J (w.heap.size + 1) 2) _ (U HY2)
      have y3:=xo hn (J (w.heap.size + 1) 3) _ (U HY3)
      have y4:=xo hn (J (w.heap.size + 1) 4) _ (U HY4)
      have y5:=xo hn (J (w.heap.size + 1) 5) _ (U oo)
      have y6:=xo hn (J (w.heap.size + 1) 6) _ (U HY6)
      have y7:=xo hn (J (w.heap.size + 1) 7) _ (U HY7)
      clear D K xp xo
      rw [if_pos (by rfl)];unfold Oper.wp;go_simp
      exact ⟨upd f 0 (.agg (yx 1 s F li L ii pr O).toArray),by simp [upd],zY (U xA) 0 _ hn (by decide) (zX rfl rfl),aS _ (U qG) (by decide) (by decide)⟩
     | 1,Z =>
      obtain rfl:=ya Z
      have hn:x[5]? = some false:=zz xp 12 1 5 (by kernel_rfl) hx (by simp) xz
      have g0:f 0 = .agg (yx 1 s F li L ii pr O).toArray:=zT (K.c hn 0 (ye D 0 rfl)) rfl rfl
      clear D K xp xo
      rw [if_pos (by rfl)];unfold Oper.wp;go_simp
      refine (U oD V).mono ?_
      rintro e w4 ⟨rfl,xD⟩
      exact ⟨upd f 1 (.agg (yx 1 s F li L ii pr (cutB O)).toArray),by simp [upd,g0],zY (ry_grow (cx_monoB (by omega)) (U xA) hn xD) 1 _ hn (by decide) (zX rfl rfl),aS _ (U qG) (by decide) (by decide)⟩
     | 2,Z =>
      obtain rfl:=ya Z
      have hn:x[5]? = some false:=zz xp 12 2 5 (by kernel_rfl) hx (by simp) xz
      clear D K xp xo
      rw [if_pos (by rfl)];unfold Oper.wp;go_simp
      exact ⟨upd f 2 (yp w 0),by simp [upd],zY (U xA) 2 _ hn (by decide) (zX rfl rfl),aS _ (U qG) (by decide) (by decide)⟩
     | 3,Z =>
      obtain rfl:=ya Z
      have hn:x[5]? = some false:=zz xp 12 3 5 (by kernel_rfl) hx (by simp) xz
      have g2:f 2 = yp w 0:=zT (K.c hn 2 (ye D 2 rfl)) rfl rfl
      have z0:=xo hn (yq w 0) _ (U HZ0)
      clear D K xp xo
      rw [if_pos (by rfl)];unfold Oper.wp;go_simp
      exact ⟨upd f 3 (H next),by simp [upd,g2],zY (U xA) 3 _ hn (by decide) (zX rfl rfl),aS _ (U qG) (by decide) (by decide)⟩
     | 4,Z =>
      obtain rfl:=ya Z
      have hn:x[5]? = some false:=zz xp 12 4 5 (by kernel_rfl) hx (by simp) xz
      have g1:f 1 = .agg (yx 1 s F li L ii pr (cutB O)).toArray:=zT (K.c hn 1 (ye D 1 rfl)) rfl rfl
      have g3:f 3 = H next:=zT (K.c hn 3 (ye D 3 rfl)) rfl rfl
      clear D K xp xo
      rw [if_pos (by rfl)];unfold Oper.wp;go_simp
      exact ⟨upd f 4 (.agg (yv 1 1 s F li L ii pr (cutB O) next 0 0 0 0).toArray),by simp [upd,g1,g3],zY (U xA) 4 _ hn (by decide) (zX rfl rfl),aS _ (U qG) (by decide) (by decide)⟩
     | 5,Z =>
      obtain rfl:=ya Z
      have hn:x[5]? = some false:=xz
      have g4:f 4 = .agg (yv 1 1 s F li L ii pr (cutB O) next 0 0 0 0).toArray:=zT (K.c hn 4 (ye D 4 rfl)) rfl rfl
      have jm:x[6]? = some false:=zz xp 12 5 6 (by kernel_rfl) hx (by simp) xz
      have xT:=K.b hn
      have hbA:=eE V (E (yv 1 1 s F li L ii pr (cutB O) next 0 0 0 0).toArray 46)
      have HQQ:Hid (ERow (V.alloc (E (yv 1 1 s F li L ii pr (cutB O) next 0 0 0 0).toArray 46)) w3.heap.size (.slice (some (yq V 0)) 1 1) [⟨1,⟨1,s,F,li,L,ii,pr,cutB O⟩,next,0,0,0,0⟩]∧yn hb (V.alloc (E (yv 1 1 s F li L ii pr (cutB O) next 0 0 0 0).toArray 46))∧ORow (V.alloc (E (yv 1 1 s F li L ii pr (cutB O) next 0 0 0 0).toArray 46)) hb.heap.size (.slice a6 l.length c6) l):=⟨eRow_one V ⟨1,⟨1,s,F,li,L,ii,pr,cutB O⟩,next,0,0,0,0⟩ xT.size,(eH (U xQ) xT).trans (hbA.mono (yO (U xQ).size xT.size)),zm (zm (U qA) xT) hbA⟩
      clear D K xp xo hbA xT
      rw [if_pos (by rfl)];unfold Oper.wp;go_simp
      exact ⟨upd f 5 (.slice (some (yq V 0)) 1 1),by simp [upd,g4],ry_write (U xA) hn _ ⟨V.heap.size,zp _ _ _,U HQQ⟩,ryb_write _ (U qG) jm⟩
     | 6,Z =>
      obtain rfl:=ya Z
      have hn:x[5]? = some true:=D ⟨5,.data⟩ (by simp) rfl
      clear D K xp xo
      rw [if_pos (by rfl)];unfold Oper.wp;go_simp
      exact ⟨upd f 6 (f 5),by simp [upd],ry_after (U xA) 6 _ hn (by decide) (fun h=>h),ryb_lay xz⟩
     | n + 7,Z=>simp at Z
    ·rintro x xn V ⟨f,rfl,K,hA⟩ hx xN
     have xq:=zR xN hx (by kernel_rfl)
     have e6:f 6 = f 5:=hA.1 (xq 6 (by simp))
     obtain ⟨be,e5,q1,q2,q3⟩:=K.m (xq 5 (by simp))
     rw [e5] at e6
     refine U xv _ _ ?_
     clear xv
     simp only [e5,e6]
     have HE4:=Y q1
     have ud:=Y q2
     have kD:=Y q3
     have h3V:w3.heap.size ≤ V.heap.size:=by have:=(U HE4).lt be rfl; omega
     clear K hA xq xN hx q1 q2 q3 e5 e6
     generalize f 0 = tm0,f 1 = tm1,f 2 = tm2,f 3 = tm3,f 4 = tm4
     refine eI fun hR xv=>?_
     obtain ⟨z0,z1,y0,y1,y2,y3,y4,y5,y6,y7⟩:=U xM V (U ud)
     go_wp2_with fail
     refine (U qN a l.length A V).mono ?_
     rintro e w5 ⟨rfl,vG⟩
     have qc:=Y (zJ (U HE4) vG)
     have jA:=Y (eH (U ud) vG)
     have pw:=Y (zm (U kD) vG)
     clear vG z0 z1 y0 y1 y2 y3 y4 y5 y6 y7
     go_wp2_with fail
     refine (U HMTT _ w5 (zN (U pw) (by omega))).mono ?_
     rintro e w6 ⟨v6',ve,rfl,hl6,he6,kK⟩
     have hOm:ORow w6 hb.heap.size v6' FL:=by
      rcases hl6 with ⟨Q,N⟩ | h
      ·rw [Q,show FL = l from N]; exact zm (U pw) kK
      ·exact zI h (U jA).size
     clear hl6
     obtain ⟨am,cm,rfl⟩:=zU hOm
     obtain ⟨ae,ce,rfl⟩:=zU he6
     have vp:=eE w6 (E (yw next s tt Fl li O).toArray 49)
     have qg:=Y (zJ (zJ (U qc) kK) vp)
     have jl:=Y (zJ he6 vp)
     have HO6:=Y (zm hOm vp)
     have oe:=Y ((U jA).trans ((eH kK vp).mono (U jA).size))
     have HTK:Hid (World.rangeAt (w6.alloc (E (yw next s tt Fl li O).toArray 49)) w6.heap.size 0 (yw next s tt Fl li O)):=zi w6 (yw next s tt Fl li O) _
     have HTX:Hid (∃ xu,(w6.alloc (E (yw next s tt Fl li O).toArray 49)).heap[w6.heap.size]? = some (.cells xu 49 (0,0))):=⟨_,heap_alloc_new w6 _⟩
     have hlt6:w6.heap.size < (w6.alloc (E (yw next s tt Fl li O).toArray 49)).heap.size:=by rw [zh]; omega
     have hX6:hb.heap.size ≤ w6.heap.size:=yO (U jA).size kK.size
     have h35:w3.heap.size ≤ w5.heap.size:=by have:=(U qc).lt be rfl; omega
     clear vp kK hOm he6
     go_wp2_with fail
     refine U xv _ _ ?_
     clear xv
     generalize (w6.alloc (E (yw next s tt Fl li O).toArray 49)) = yb at qg jl HO6 oe HTK HTX hlt6 ⊢
     generalize w6.heap.size = tb at HTK HTX hlt6 hX6 ⊢
     have hX3:hb.heap.size ≤ w3.heap.size:=(U xQ).size
     have hS3:w.heap.size + 1 + 1 < w3.heap.size:=yK vS hX3
     refine wp_seq_k fun hR hK=>?_
     have uL:∀ (v14:Value) (W:World),ERow W w3.heap.size v14 (⟨1,⟨1,s,F,li,L,ii,pr,cutB O⟩,next,0,0,0,0⟩ :: Ft)→ORow W hb.heap.size (.slice am FL.length cm) FL→W.rangeAt tb 0 (yw next s tt Fl li O)→yn hb W→tb < W.heap.size→w3.heap.size ≤ W.heap.size→hR { tmps:=#[.agg #[H next,.slice a l.length A],.agg (yx 1 s F li L ii pr O).toArray,yp w 0,I (w.heap.size + 1) 0,I (w.heap.size + 1 + 1) 0,.slice none 0 0,.slice am FL.length cm,H 0,H pk,M,M,M,M,M,v14,I tb 0,.slice ae Ft.length ce,M,.slice (some (yq hb 0)) 0 0,yp w 1,.slice a l.length A,.slice a6 l.length c6,.agg #[H next,.slice a l.length A],.agg (yx 1 s F li L ii pr O).toArray,H 0,H 0,.bool false,M,M,M,M,M,M,M,M,M,.slice a6 l.length c6,I (w.heap.size + 1) 5,H ii,H pk,I (w.heap.size + 1) 0,H 1,.bool false,.bool false,M,M,M,M,M,M,M,M,M,M,M,M,M,M,M,M,.bool false,.bool false,M,M,M,M,M,M,M,M,M,M,M,M,M,M,M,M,.bool false,.bool false,M,M,M,M,M,M,M,M,M,M,M,M,M,M,M,M,M,M,M,M,M,M,M,M,M,M,M,M,M,M,M,M,M,M,M,M,M,M,M,M,M,M,M,M,M,tm0,tm1,tm2,tm3,tm4,.slice (some (J be 0)) 1 1,.tuple #[.slice am FL.length cm,.agg (yw next s tt Fl li O).toArray,.slice ae Ft.length ce],.slice a6 l.length c6,.agg #[H next,.slice a l.length A],.agg (yx 1 s F li L ii pr O).toArray,.agg (yw next s tt L li O).toArray,.tuple #[.slice am FL.length cm,.agg (yw next s tt Fl li O).toArray,.slice ae Ft.length ce],.slice am FL.length cm,.agg (yw next s tt Fl li O).toArray,.slice ae Ft.length ce,.slice (some (J be 0)) 1 1,.slice ae Ft.length ce,v14,M,M,M,M,M,M,M,M,M,M,M,M,M,M,M,M,M,M,M,M,M,M,M,M,M,M,M,M],defers:=[] } W:=by
      intro v14 W he Z oS jb htb h3W0
      refine hK _ _ ?_
      clear hK HTX HTK qg jl HO6 oe hlt6 qc pw jA HE4 kD ud HMTT qN oD
      have hlev:(⟨1,⟨1,s,F,li,L,ii,pr,cutB O⟩,next,0,0,0,0⟩ :: Ft:List Ev).length ≤ 100:=by simp; omega
      generalize hevs:(⟨1,⟨1,s,F,li,L,ii,pr,cutB O⟩,next,0,0,0,0⟩ :: Ft:List Ev) = evs at he hlev
      have HEVS:=Y hevs
      have vH:=Y he
      have jR:=Y Z
      have HTKV:=Y oS
      have xw:=Y jb
      clear he Z oS jb hevs
      have q0:W.cell? (J tb 0) = some (H next):=U HTKV 0 _ rfl
      have q3:W.cell? (J tb 3) = some (H Fl):=U HTKV 3 _ rfl
      refine eI fun K3 vz=>?_
      by_cases hFl:0 < Fl
      ·have oL:yn W (W.alloc (E (yv 5 0 0 0 0 0 0 0 ⟨#[]⟩ next 0 Fl 0 0).toArray 46)):=eE _ _
       have hy2:World.cell? (W.alloc (E (yv 5 0 0 0 0 0 0 0 ⟨#[]⟩ next 0 Fl 0 0).toArray 46)) (J (w.heap.size + 1) 2) = some (H F):=(U xM _ (eH (U xw) oL)).2.2.2.2.1
       have HEW:=Y (zJ (U vH) oL)
       have HLW:=Y (zm (U jR) oL)
       have oz:=Y (eH (U xw) oL)
       have kr:=Y (zb (U HTKV) oL htb)
       have H3W:Hid (w3.heap.size ≤ (W.alloc (E (yv 5 0 0 0 0 0 0 0 ⟨#[]⟩ next 0 Fl 0 0).toArray 46)).heap.size):=yO h3W0 oL.size
       have qp:Hid (World.rangeAt (W.alloc (E (yv 5 0 0 0 0 0 0 0 ⟨#[]⟩ next 0 Fl 0 0).toArray 46)) W.heap.size 0 (Ev.vs ⟨5,zCm,next,0,Fl,0,0⟩)):=zi W (Ev.vs ⟨5,zCm,next,0,Fl,0,0⟩) _
       have HXT:Hid (World.there (W.alloc (E (yv 5 0 0 0 0 0 0 0 ⟨#[]⟩ next 0 Fl 0 0).toArray 46)) W.heap.size 0 14):=zw W (Ev.vs ⟨5,zCm,next,0,Fl,0,0⟩) _
       have htb7:tb < (W.alloc (E (yv 5 0 0 0 0 0 0 0 ⟨#[]⟩ next 0 Fl 0 0).toArray 46)).heap.size:=yK htb oL.size
       have hebX:hb.heap.size ≤ W.heap.size:=(U xw).size
       have heb7:W.heap.size < (W.alloc (E (yv 5 0 0 0 0 0 0 0 ⟨#[]⟩ next 0 Fl 0 0).toArray 46)).heap.size:=by rw [zh]; omega
       have htbe:tb ≠ W.heap.size:=by omega
       have HXB:Hid (∃ xu,(W.alloc (E (yv 5 0 0 0 0 0 0 0 ⟨#[]⟩ next 0 Fl 0 0).toArray 46)).heap[W.heap.size]? = some (.cells xu 46 (0,0))):=⟨_,heap_alloc_new W _⟩
       have hebE:Hid (∀ g,v14.ownBlock = some g→g ≠ W.heap.size):=fun g hg=>by have:=((U vH).lt g hg).2; omega
       have hsf:=sfl
       clear oL
       go_wp2_with fail
       refine (cI F _).mono ?_
       rintro e w' ⟨rfl,un⟩
       rw [un]
       clear un w' q0 q3
       generalize (W.alloc (E (yv 5 0 0 0 0 0 0 0 ⟨#[]⟩ next 0 Fl 0 0).toArray 46)) = W7 at HEW HLW oz kr H3W qp HXT HXB htb7 heb7 hy2 ⊢
       generalize W.heap.size = eb at qp HXT HXB hebX heb7 htbe hebE ⊢
       clear hy2
       cases qK:aO F
       ·have x0:W7.cell? (J eb 0) = some (H 5):=U qp 0 _ rfl
        have x1:W7.cell? (J eb 1) = some (H 0):=U qp 1 _ rfl
        have x2:W7.cell? (J eb 2) = some (H 0):=U qp 2 _ rfl
        have x3:W7.cell? (J eb 3) = some (H 0):=U qp 3 _ rfl
        have x4:W7.cell? (J eb 4) = some (H 0):=U qp 4 _ rfl
        have x5:W7.cell? (J eb 5) = some (H 0):=U qp 5 _ rfl
        have x6:W7.cell? (J eb 6) = some (H 0):=U qp 6 _ rfl
        have x7:W7.cell? (J eb 7) = some (yj 0):=U qp 7 _ rfl
        have x8:W7.cell? (J eb 8) = some (yk ⟨#[]⟩):=U qp 8 _ rfl
        have x9:W7.cell? (J eb 9) = some (H next):=U qp 9 _ rfl
        have x10:W7.cell? (J eb 10) = some (H 0):=U qp 10 _ rfl
        have x11:W7.cell? (J eb 11) = some (H Fl):=U qp 11 _ rfl
        have x12:W7.cell? (J eb 12) = some (H 0):=U qp 12 _ rfl
        have x13:W7.cell? (J eb 13) = some (H 0):=U qp 13 _ rfl
        have HEA:=Y ((U HEW).alloc (E (yv 5 0 0 0 0 0 0 0 ⟨#[]⟩ next 0 Fl 0 0).toArray 46))
        have qm:Hid (yn W7 (W7.alloc (E (yv 5 0 0 0 0 0 0 0 ⟨#[]⟩ next 0 Fl 0 0).toArray 46))):=eE _ _
        have h3W:w3.heap.size ≤ W7.heap.size:=U H3W
        go_wp2_with (at_builtin; go_must (refine wpList_append_own _ rfl _ _ 38 rfl w3.heap.size 46 j0 _ 14 120 Tryz.underlying38 jg pT hy1 hy2 rfl (by decide) v14 evs.length (evs.flatMap Ev.vs) rfl (U HEA) (yq W7 0) 1 1 (Ev.vs ⟨5,zCm,next,0,Fl,0,0⟩) rfl rfl (cy W7 (Ev.vs ⟨5,zCm,next,0,Fl,0,0⟩) 46) (one_ev ⟨5,zCm,next,0,Fl,0,0⟩) (by unfold maxLen; omega) (by omega) (yO h3W (U qm).size) ?_); intro v5 w9 vy aC _; have HO9:=Y vy; have HG9:=Y aC; clear vy aC)
        have HE9:Hid (ERow w9 w3.heap.size v5 (evs ++ [⟨5,zCm,next,0,Fl,0,0⟩])):=by
         show w9.ownsRow _ _ _ _ (evs ++ [(⟨5,zCm,next,0,Fl,0,0⟩:Ev)]).length _
         rw [yQ,List.flatMap_append]
         simpa using U HO9
        have HL9:=Y (World.ownsRow.kept (zm (U HLW) (U qm)) (U HG9) (zD (zm (U HLW) (U qm)) (U HEA) (by decide)))
        have kR:Hid (yn hb w9):=by
         have Q:=(U oz).trans ((U qm).mono (U oz).size)
         exact Q.grown (U HG9) Q.size (fun g hg=>yO hX3 ((U HEA).lt g hg).1)
        clear HO9 HG9 HEA qm
        go_wp2_with fail
        refine U vz _ _ ?_
        clear vz
        obtain ⟨z0,z1,y0,y1,y2,y3,y4,y5,y6,y7⟩:=U xM w9 (U kR)
        have qi:=zg (U HB).2.2.2.2.1 (U kR) vS
        obtain ⟨p0,x0,f0⟩:=ze qi (j:=0) (by omega)
        obtain ⟨p1,x1,f1⟩:=ze qi (j:=1) (by omega)
        have hBW:=(U HB).2.2.2.2.2.trans ((U kR).mono (U HB).2.2.2.2.2.size)
        have HWF:Hid (yn w ((w9.setCell (J (w.heap.size + 1 + 1) 0) (H (next + 1))).setCell (J (w.heap.size + 1 + 1) 1) (.slice am FL.length cm))):=(hBW.setCell (p:=(J (w.heap.size + 1 + 1) 0)) (show w.heap.size ≤ w.heap.size + 1 + 1 by omega) _).setCell (p:=(J (w.heap.size + 1 + 1) 1)) (show w.heap.size ≤ w.heap.size + 1 + 1 by omega) _
        have HEF:Hid (ERow ((w9.setCell (J (w.heap.size + 1 + 1) 0) (H (next + 1))).setCell (J (w.heap.size + 1 + 1) 1) (.slice am FL.length cm)) w.heap.size v5 (evs ++ [⟨5,zCm,next,0,Fl,0,0⟩])):=zI (cO (cO (U HE9) hS3 0 _) hS3 1 _) (by omega)
        have HLF:Hid (ORow ((w9.setCell (J (w.heap.size + 1 + 1) 0) (H (next + 1))).setCell (J (w.heap.size + 1 + 1) 1) (.slice am FL.length cm)) w.heap.size (.slice am FL.length cm) (FL)):=zI (bM (bM (U HL9) vS 0 _) vS 1 _) hXw
        have oB:Hid (((w9.setCell (J (w.heap.size + 1 + 1) 0) (H (next + 1))).setCell (J (w.heap.size + 1 + 1) 1) (.slice am FL.length cm)).cell? (J (w.heap.size + 1 + 1) 0) = some (H (next + 1))):=(yM _ _ _ _ (zQ (by decide))).trans (yN _ _ _ x0)
        have qZ:Hid (((w9.setCell (J (w.heap.size + 1 + 1) 0) (H (next + 1))).setCell (J (w.heap.size + 1 + 1) 1) (.slice am FL.length cm)).cell? (J (w.heap.size + 1 + 1) 1) = some (.slice am FL.length cm)):=yN _ _ _ ((yM _ _ _ _ (zQ (by decide))).trans x1)
        clear qi hBW y0 y1 y2 y3 y4 y5 y6 y7
        go_wp2_with fail
        have d0:=U oB
        have d1:=U qZ
        try simp only [Exit.inBlock,Exit.then]
        refine bodyPost_ret (by simp [results,Tryz.results44,go_sem,d0,d1]; try rfl) rfl ?_
        obtain ⟨rfl,kA,ke⟩:=U uK
        rw [if_neg (fun h=>by rw [qK] at h; cases h.2)] at kA
        rw [if_pos hFl,if_neg (by rw [qK]; simp),U HEVS] at ke
        subst kA ke
        exact ⟨_,_,rfl,U HLF,U HEF,U HWF⟩
       ·have xe0:W7.cell? (J eb 0) = some (H 5):=U qp 0 _ rfl
        have fe0:W7.frozen? (J eb 0) = false:=(U HXT 0 (by omega)).2
        have HEW8:Hid (ERow (W7.setCell (J eb 0) (H 4)) w3.heap.size v14 evs):=zv (U HEW) (fun e=>U hebE eb e.symm rfl) 0 _
        have HLW8:Hid (ORow (W7.setCell (J eb 0) (H 4)) hb.heap.size (.slice am FL.length cm) FL):=zv (U HLW) (zl (U HLW) (U HXB) (by decide)) 0 _
        have HBW8:Hid (yn hb (W7.setCell (J eb 0) (H 4))):=(U oz).setCell (p:=(J eb 0)) hebX _
        have HTKW8:Hid (World.rangeAt (W7.setCell (J eb 0) (H 4)) tb 0 (yw next s tt Fl li O)):=fun j u R=>(yM _ _ _ _ (fun e=>htbe (congrArg Addr.block e).symm)).trans (U kr j u R)
        have HXR8:Hid (World.rangeAt (W7.setCell (J eb 0) (H 4)) eb 0 (Ev.vs ⟨4,zCm,next,0,Fl,0,0⟩)):=by have:=cA (j:=0) (u:=H 4) (U qp) (by rw [Ev.len]; decide); exact this
        have H3W8:Hid (w3.heap.size ≤ (W7.setCell (J eb 0) (H 4)).heap.size):=by have:=U H3W; simp only [World.setCell,Array.size_modify]; exact this
        have heb8:eb < (W7.setCell (J eb 0) (H 4)).heap.size:=by simp only [World.setCell,Array.size_modify]; exact heb7
        have htb8:tb < (W7.setCell (J eb 0) (H 4)).heap.size:=by simp only [World.setCell,Array.size_modify]; exact htb7
        clear HEW HLW oz kr qp H3W HXT HXB
        go_wp2_with fail
        clear xe0 fe0
        generalize (W7.setCell (J eb 0) (H 4)) = W8 at HEW8 HLW8 HBW8 HTKW8 HXR8 H3W8 heb8 htb8 ⊢
        have HLW:=Y (U HLW8)
        have kr:=Y (U HTKW8)
        refine zj (RZBA (fun f=>{ tmps:=#[.agg #[H next,.slice a l.length A],.agg (yx 1 s F li L ii pr O).toArray,yp w 0,I (w.heap.size + 1) 0,I (w.heap.size + 1 + 1) 0,.slice none 0 0,f 6,H 0,H pk,M,M,M,M,M,v14,I tb 0,.slice ae Ft.length ce,I eb 0,.slice (some (yq hb 0)) 0 0,yp w 1,.slice a l.length A,.slice a6 l.length c6,.agg #[H next,.slice a l.length A],.agg (yx 1 s F li L ii pr O).toArray,H 0,H 0,.bool false,M,M,M,M,M,M,M,M,M,.slice a6 l.length c6,I (w.heap.size + 1) 5,H ii,H pk,I (w.heap.size + 1) 0,H 1,.bool false,.bool false,M,M,M,M,M,M,M,M,M,M,M,M,M,M,M,M,.bool false,.bool false,M,M,M,M,M,M,M,M,M,M,M,M,M,M,M,M,.bool false,.bool false,M,M,M,M,M,M,M,M,M,M,M,M,M,M,M,M,M,M,M,M,M,M,M,M,M,M,M,M,M,M,M,M,M,M,M,M,M,M,M,M,M,M,M,M,M,tm0,tm1,tm2,tm3,tm4,.slice (some (J be 0)) 1 1,.tuple #[.slice am FL.length cm,.agg (yw next s tt Fl li O).toArray,.slice ae Ft.length ce],.slice a6 l.length c6,.agg #[H next,.slice a l.length A],.agg (yx 1 s F li L ii pr O).toArray,.agg (yw next s tt L li O).toArray,.tuple #[.slice am FL.length cm,.agg (yw next s tt Fl li O).toArray,.slice ae Ft.length ce],.slice am FL.length cm,.agg (yw next s tt Fl li O).toArray,.slice ae Ft.length ce,.slice (some (J be 0)) 1 1,.slice ae Ft.length ce,v14,I tb 3,H Fl,.bool true,I tb 0,H next,I tb 3,H Fl,.agg (yv 5 0 0 0 0 0 0 0 ⟨#[]⟩ next 0 Fl 0 0).toArray,I (w.heap.size + 1) 2,H F,.bool true,I eb 0,f 0,f 1,f 2,f 3,f 4,f 5,M,M,M,M,M,M,M,M,M,M],defers:=[] }) (CZ (.slice am FL.length cm) (.agg (yw next s tt Fl li O).toArray)) W8 FL ⟨next,s,tt,Fl,li,O⟩ (.slice am FL.length cm)) (by kernel_rfl) ?_ ?_ ?_
        ·exact ⟨fun j=>if j = 6 then .slice am FL.length cm else M,rfl,rz_start,ryb_start rfl⟩
        rotate_left
        ·rintro x xn V i op ⟨f,rfl,K,hA⟩ xp hx Z xz D
         have xA:=Y K
         have qG:=Y hA
         clear hA
         have xo:∀ (p:Addr) u,W8.cell? p = some u→V.cell? p = some u:=fun p u hu=>(K.bel.cell (yL W8 _ hu)).trans hu
         match i,Z with
         | 0,Z =>
          obtain rfl:=ya Z
          clear D K xp xo
          rw [if_pos (by rfl)];unfold Oper.wp;go_simp
          exact ⟨upd f 0 (.slice (some (yq V 0)) 0 0),by simp [upd],rz_0 (U xA) xz (fun _=>trivial),aS _ (U qG) (by decide) (by decide)⟩
         | 1,Z =>
          obtain rfl:=ya Z
          have g6:f 6 = .slice am FL.length cm:=(U qG).2 (zz xp 12 1 6 (by kernel_rfl) hx (by simp) xz)
          clear D K xp xo
          rw [if_pos (by rfl)];unfold Oper.wp;go_simp
          exact ⟨upd f 1 (.slice am FL.length cm),by simp [upd,g6],rz_val (U xA) 1 _ rfl (by decide) (by decide) (by decide) (by decide),aS _ (U qG) (by decide) (by decide)⟩
         | 2,Z =>
          obtain rfl:=ya Z
          have k0:x[0]? = some true:=D ⟨0,.data⟩ (by simp) rfl
          have g1:f 1 = .slice am FL.length cm:=K.c 1 (ye D 1 rfl)
          have n5:x[5]? = some false:=zz xp 12 2 5 (by kernel_rfl) hx (by simp) xz
          have vI:=Y (K.m0 k0 xz)
          have xT:=K.bel
          have HRDV:Hid (∀ ad,am = some ad→∀ j u,(FL.flatMap Od.vs)[j]? = some u→V.cell? (ad.add j) = some u):=fun ad had=>by
           have h:=zN (zm (U HLW) xT) (by omega)
           rw [had] at h
           exact rd_src h
          have HSLV:=Y (oRow_sl (U HLW))
          clear D K xp xo
          rw [if_pos (by rfl)]
          rcases U HSLV with h | ⟨ad,nn,cc,h⟩
          ·simp only [Value.slice.injEq] at h
           have hL:FL = []:=List.length_eq_zero_iff.1 h.2.1
           refine eD (.tmp 155) (.tmp 156) 26 rfl W8.heap.size 49 i0 6 Tryz.underlying26 uG (f 0) 0 [] rfl (U vI) (by show f 1 = _; rw [g1,h.1,h.2.1,h.2.2]) ?_
           exact ⟨upd f 2 (f 0),rfl,rz_2 (U xA) k0 xz n5 (fun _=>trivial) (by rw [hL]; exact U vI) (yS _ _),aS _ (U qG) (by decide) (by decide)⟩
          ·simp only [Value.slice.injEq] at h
           refine wp_append_own V (.tmp 155) (.tmp 156) 26 rfl W8.heap.size 49 i0 _ 6 56 Tryz.underlying26 uG uF uI uT rfl (by decide) (f 0) 0 [] rfl (U vI) ad FL.length cm (FL.flatMap Od.vs) (by show f 1 = _; rw [g1,h.1]) (by rw [zK Od.len]) (U HRDV ad h.1) (bB FL) (by unfold maxLen; omega) (by omega) xT.size ?_
           intro v' w' xI uc _
           refine ⟨upd f 2 v',rfl,rz_2 (U xA) k0 xz n5 (fun _=>trivial) ?_ uc,aS _ (U qG) (by decide) (by decide)⟩
           show w'.ownsRow _ _ _ _ FL.length _
           simpa using xI
         | 3,Z =>
          obtain rfl:=ya Z
          have t0:=xo (J tb 0) _ (U kr 0 _ rfl)
          have t1:=xo (J tb 1) _ (U kr 1 _ rfl)
          have t2:=xo (J tb 2) _ (U kr 2 _ rfl)
          have t3:=xo (J tb 3) _ (U kr 3 _ rfl)
          have t4:=xo (J tb 4) _ (U kr 4 _ rfl)
          have t5:=xo (J tb 5) _ (U kr 5 _ rfl)
          clear D K xp xo
          rw [if_pos (by rfl)];unfold Oper.wp;go_simp
          exact ⟨upd f 3 (.agg (yw next s tt Fl li O).toArray),by simp [upd],rz_val (U xA) 3 _ rfl (by decide) (by decide) (by decide) (by decide),aS _ (U qG) (by decide) (by decide)⟩
         | 4,Z =>
          obtain rfl:=ya Z
          have g3:f 3 = .agg (yw next s tt Fl li O).toArray:=K.c 3 (ye D 3 rfl)
          have n5:x[5]? = some false:=zz xp 12 4 5 (by kernel_rfl) hx (by simp) xz
          clear D K xp xo
          rw [if_pos (by rfl)];unfold Oper.wp;go_simp
          exact ⟨upd f 4 (.slice (some (yq V 0)) 1 1),by simp [upd,g3],rz_4 (U xA) xz n5 (fun _=>trivial),aS _ (U qG) (by decide) (by decide)⟩
         | 5,Z =>
          obtain rfl:=ya Z
          have k2:x[2]? = some true:=D ⟨2,.data⟩ (by simp) rfl
          obtain ⟨b4,g4,xV,xX,um,-⟩:=K.m4 (ye D 4 rfl) xz
          have vU:=Y (K.m2 k2 xz)
          have xT:=K.bel
          have h6:x[6]? = some false:=zz xp 12 5 6 (by kernel_rfl) hx (by simp) xz
          have vh:Hid (∀ j u,(Od.vs ⟨next,s,tt,Fl,li,O⟩)[j]? = some u→V.cell? (((J b4 0):Addr).add j) = some u):=fun j u hu=>by
           have:=um j u hu
           rw [Addr.add_mid]; exact this
          clear D K xp um xo
          rw [if_pos (by rfl)]
          refine wp_append_own V (.tmp 157) (.tmp 159) 26 rfl W8.heap.size 49 i0 _ 6 56 Tryz.underlying26 uG uF uI uT rfl (by decide) (f 2) FL.length (FL.flatMap Od.vs) rfl (U vU) (J b4 0) 1 1 (Od.vs ⟨next,s,tt,Fl,li,O⟩) (by show f 4 = _; exact g4) rfl (U vh) (one_od ⟨next,s,tt,Fl,li,O⟩) (by unfold maxLen; omega) (by omega) xT.size ?_
          intro v' w' xI uc _
          refine ⟨upd f 5 v',rfl,rz_5 (U xA) k2 xz (fun _=>trivial) ?_ uc,ryb_write v' (U qG) h6⟩
          show w'.ownsRow _ _ _ _ (FL ++ [(⟨next,s,tt,Fl,li,O⟩:Od)]).length _
          rw [yQ,List.flatMap_append]
          simpa using xI
         | 6,Z =>
          obtain rfl:=ya Z
          have k5:x[5]? = some true:=D ⟨5,.data⟩ (by simp) rfl
          clear D K xp xo
          rw [if_pos (by rfl)];unfold Oper.wp;go_simp
          exact ⟨upd f 6 (f 5),by simp [upd],rz_val (U xA) 6 _ trivial (by decide) (by decide) (by decide) (by decide),ryb_lay xz⟩
         | n + 7,Z=>simp at Z
        ·rintro x xn V ⟨f,rfl,K,hA⟩ hx xN
         have xq:=zR xN hx (by kernel_rfl)
         have e6:f 6 = f 5:=hA.1 (xq 6 (by simp))
         have hO5:=K.m5 (xq 5 (by simp))
         have xT:=K.bel
         obtain ⟨aL,cL,hvL⟩:=zU hO5
         rw [hvL] at hO5 e6
         generalize (FL ++ [(⟨next,s,tt,Fl,li,O⟩:Od)]).length = nL at hO5 e6
         simp only [e6]
         have HLW:=Y (zI hO5 (show hb.heap.size ≤ W8.heap.size from (U HBW8).size))
         have HEW:=Y (zJ (U HEW8) xT)
         have oz:=Y (eH (U HBW8) xT)
         have qp:=Y (zb (U HXR8) xT heb8)
         have H3W:Hid (w3.heap.size ≤ V.heap.size):=yO (U H3W8) xT.size
         clear K hA xq xN hx hO5 xT e6 hvL
         generalize f 0 = tn0,f 1 = tn1,f 2 = tn2,f 3 = tn3,f 4 = tn4,f 5 = tn5
         obtain ⟨x0,x1,x2,x3,x4,x5,x6,x7,x8,x9,x10,x11,x12,x13⟩:=yG (U qp)
         have HEA:=Y ((U HEW).alloc (E (yv 4 0 0 0 0 0 0 0 ⟨#[]⟩ next 0 Fl 0 0).toArray 46))
         have qm:Hid (yn V (V.alloc (E (yv 4 0 0 0 0 0 0 0 ⟨#[]⟩ next 0 Fl 0 0).toArray 46))):=eE _ _
         have h3W:w3.heap.size ≤ V.heap.size:=U H3W
         go_wp2_with (at_builtin; go_must (refine wpList_append_own _ rfl _ _ 38 rfl w3.heap.size 46 j0 _ 14 120 Tryz.underlying38 jg pT hy1 hy2 rfl (by decide) v14 evs.length (evs.flatMap Ev.vs) rfl (U HEA) (yq V 0) 1 1 (Ev.vs ⟨4,zCm,next,0,Fl,0,0⟩) rfl rfl (cy V (Ev.vs ⟨4,zCm,next,0,Fl,0,0⟩) 46) (one_ev ⟨4,zCm,next,0,Fl,0,0⟩) (by unfold maxLen; omega) (by omega) (yO h3W (U qm).size) ?_); intro v5 w9 vy aC _; have HO9:=Y vy; have HG9:=Y aC; clear vy aC)
         have HE9:Hid (ERow w9 w3.heap.size v5 (evs ++ [⟨4,zCm,next,0,Fl,0,0⟩])):=by
          show w9.ownsRow _ _ _ _ (evs ++ [(⟨4,zCm,next,0,Fl,0,0⟩:Ev)]).length _
          rw [yQ,List.flatMap_append]
          simpa using U HO9
         have HL9:=Y (World.ownsRow.kept (zm (U HLW) (U qm)) (U HG9) (zD (zm (U HLW) (U qm)) (U HEA) (by decide)))
         have kR:Hid (yn hb w9):=by
          have Q:=(U oz).trans ((U qm).mono (U oz).size)
          exact Q.grown (U HG9) Q.size (fun g hg=>yO hX3 ((U HEA).lt g hg).1)
         clear HO9 HG9 HEA qm
         go_wp2_with fail
         refine U vz _ _ ?_
         clear vz
         obtain ⟨z0,z1,y0,y1,y2,y3,y4,y5,y6,y7⟩:=U xM w9 (U kR)
         have qi:=zg (U HB).2.2.2.2.1 (U kR) vS
         obtain ⟨p0,x0,f0⟩:=ze qi (j:=0) (by omega)
         obtain ⟨p1,x1,f1⟩:=ze qi (j:=1) (by omega)
         have hBW:=(U HB).2.2.2.2.2.trans ((U kR).mono (U HB).2.2.2.2.2.size)
         have HWF:Hid (yn w ((w9.setCell (J (w.heap.size + 1 + 1) 0) (H (next + 1))).setCell (J (w.heap.size + 1 + 1) 1) (.slice aL nL cL))):=(hBW.setCell (p:=(J (w.heap.size + 1 + 1) 0)) (show w.heap.size ≤ w.heap.size + 1 + 1 by omega) _).setCell (p:=(J (w.heap.size + 1 + 1) 1)) (show w.heap.size ≤ w.heap.size + 1 + 1 by omega) _
         have HEF:Hid (ERow ((w9.setCell (J (w.heap.size + 1 + 1) 0) (H (next + 1))).setCell (J (w.heap.size + 1 + 1) 1) (.slice aL nL cL)) w.heap.size v5 (evs ++ [⟨4,zCm,next,0,Fl,0,0⟩])):=zI (cO (cO (U HE9) hS3 0 _) hS3 1 _) (by omega)
         have HLF:Hid (ORow ((w9.setCell (J (w.heap.size + 1 + 1) 0) (H (next + 1))).setCell (J (w.heap.size + 1 + 1) 1) (.slice aL nL cL)) w.heap.size (.slice aL nL cL) (FL ++ [⟨next,s,tt,Fl,li,O⟩])):=zI (bM (bM (U HL9) vS 0 _) vS 1 _) hXw
         have oB:Hid (((w9.setCell (J (w.heap.size + 1 + 1) 0) (H (next + 1))).setCell (J (w.heap.size + 1 + 1) 1) (.slice aL nL cL)).cell? (J (w.heap.size + 1 + 1) 0) = some (H (next + 1))):=(yM _ _ _ _ (zQ (by decide))).trans (yN _ _ _ x0)
         have qZ:Hid (((w9.setCell (J (w.heap.size + 1 + 1) 0) (H (next + 1))).setCell (J (w.heap.size + 1 + 1) 1) (.slice aL nL cL)).cell? (J (w.heap.size + 1 + 1) 1) = some (.slice aL nL cL)):=yN _ _ _ ((yM _ _ _ _ (zQ (by decide))).trans x1)
         clear qi hBW y0 y1 y2 y3 y4 y5 y6 y7
         go_wp2_with fail
         have d0:=U oB
         have d1:=U qZ
         try simp only [Exit.inBlock,Exit.then]
         refine bodyPost_ret (by simp [results,Tryz.results44,go_sem,d0,d1]; try rfl) rfl ?_
         obtain ⟨rfl,kA,ke⟩:=U uK
         rw [if_pos ⟨hFl,qK⟩] at kA
         rw [if_pos hFl,if_pos qK,U HEVS] at ke
         subst kA ke
         exact ⟨_,_,rfl,U HLF,U HEF,U HWF⟩
      ·go_wp2_with fail
       refine U vz _ _ ?_
       clear vz
       obtain ⟨z0,z1,y0,y1,y2,y3,y4,y5,y6,y7⟩:=U xM W (U xw)
       have qi:=zg (U HB).2.2.2.2.1 (U xw) vS
       obtain ⟨p0,x0,f0⟩:=ze qi (j:=0) (by omega)
       obtain ⟨p1,x1,f1⟩:=ze qi (j:=1) (by omega)
       have hBW:=(U HB).2.2.2.2.2.trans ((U xw).mono (U HB).2.2.2.2.2.size)
       have HWF:Hid (yn w ((W.setCell (J (w.heap.size + 1 + 1) 0) (H (next + 1))).setCell (J (w.heap.size + 1 + 1) 1) (.slice am FL.length cm))):=(hBW.setCell (p:=(J (w.heap.size + 1 + 1) 0)) (show w.heap.size ≤ w.heap.size + 1 + 1 by omega) _).setCell (p:=(J (w.heap.size + 1 + 1) 1)) (show w.heap.size ≤ w.heap.size + 1 + 1 by omega) _
       have HEF:Hid (ERow ((W.setCell (J (w.heap.size + 1 + 1) 0) (H (next + 1))).setCell (J (w.heap.size + 1 + 1) 1) (.slice am FL.length cm)) w.heap.size v14 (evs)):=zI (cO (cO (U vH) hS3 0 _) hS3 1 _) (by omega)
       have HLF:Hid (ORow ((W.setCell (J (w.heap.size + 1 + 1) 0) (H (next + 1))).setCell (J (w.heap.size + 1 + 1) 1) (.slice am FL.length cm)) w.heap.size (.slice am FL.length cm) (FL)):=zI (bM (bM (U jR) vS 0 _) vS 1 _) hXw
       have oB:Hid (((W.setCell (J (w.heap.size + 1 + 1) 0) (H (next + 1))).setCell (J (w.heap.size + 1 + 1) 1) (.slice am FL.length cm)).cell? (J (w.heap.size + 1 + 1) 0) = some (H (next + 1))):=(yM _ _ _ _ (zQ (by decide))).trans (yN _ _ _ x0)
       have qZ:Hid (((W.setCell (J (w.heap.size + 1 + 1) 0) (H (next + 1))).setCell (J (w.heap.size + 1 + 1) 1) (.slice am FL.length cm)).cell? (J (w.heap.size + 1 + 1) 1) = some (.slice am FL.length cm)):=yN _ _ _ ((yM _ _ _ _ (zQ (by decide))).trans x1)
       clear qi hBW y0 y1 y2 y3 y4 y5 y6 y7
       go_wp2_with fail
       have d0:=U oB
       have d1:=U qZ
       try simp only [Exit.inBlock,Exit.then]
       refine bodyPost_ret (by simp [results,Tryz.results44,go_sem,d0,d1]; try rfl) rfl ?_
       obtain ⟨rfl,kA,ke⟩:=U uK
       rw [if_neg (fun h=>by have:=h.1; omega)] at kA
       rw [if_neg (by omega),List.append_nil,U HEVS] at ke
       subst kA ke
       exact ⟨_,_,rfl,U HLF,U HEF,U HWF⟩
     have HT2':=Y uL
     clear uL hK
     have h3Y:w3.heap.size ≤ yb.heap.size:=by have:=(U qg).lt be rfl; omega
     rcases (U jl).2 with ⟨hv,h0⟩ | ⟨gt,ct,cut,hv,_⟩
     ·simp only [Value.slice.injEq] at hv
      obtain ⟨rfl,pL,rfl⟩:=hv
      obtain rfl:=List.length_eq_zero_iff.1 pL
      go_wp2_with (at_builtin; go_must (refine wpList_append_own_none rfl _ _ 38 rfl w3.heap.size 46 j0 14 Tryz.underlying38 jg (.slice (some (J be 0)) 1 1) 1 _ rfl (U qg) rfl ?_))
      exact U HT2' _ _ (U qg) (U HO6) (U HTK) (U oe) hlt6 h3Y
     ·simp only [Value.slice.injEq] at hv
      obtain ⟨rfl,-,rfl⟩:=hv
      have vh:=Y (row_src (U jl))
      go_wp2_with (at_builtin; go_must (refine wpList_append_own _ rfl _ _ 38 rfl w3.heap.size 46 j0 _ 14 120 Tryz.underlying38 jg pT hy1 hy2 rfl (by decide) (.slice (some (J be 0)) 1 1) 1 _ rfl (U qg) (J gt 0) Ft.length ce (Ft.flatMap Ev.vs) rfl (by rw [zK Ev.len]) (U vh) (one_allE Ft) (by unfold maxLen; omega) (by omega) h3Y ?_); intro v14 w7 hown7 hg7 _; have HO7:=Y hown7; have pu:=Y hg7; clear hown7 hg7)
      have HE7:Hid (ERow w7 w3.heap.size v14 (⟨1,⟨1,s,F,li,L,ii,pr,cutB O⟩,next,0,0,0,0⟩ :: Ft)):=by
       show w7.ownsRow _ _ _ _ (⟨1,⟨1,s,F,li,L,ii,pr,cutB O⟩,next,0,0,0,0⟩ :: Ft:List Ev).length _
       have h:=U HO7
       rw [List.length_cons,Nat.add_comm]
       simpa using h
      exact U HT2' _ _ (U HE7) (World.ownsRow.kept (U HO6) (U pu) (zD (U HO6) (U qg) (by decide))) (fun j u R=>(yR (a:=(J tb (0 + j))) ((U pu).block tb hlt6 (zl (U qg) (U HTX) (by decide)))).trans (U HTK j u R)) ((U oe).grown (U pu) (U oe).size (fun g hg=>yO hX3 ((U qg).lt g hg).1)) (yK hlt6 (U pu).size) (yO h3Y (U pu).size)
   ·exact absurd (U uD).2 (by decide)
   ·exact absurd (U uD).2 (by decide)
   ·exact absurd (U uD).2 (by decide)
  ·have oa:=vi
   have qK:(rr == 0) = false:=by rw [xe]; exact vi
   have uK:Hid (sN = next∧sL = l∧sE = [⟨2,⟨kk,s,F,li,L,ii,pr,cutB O⟩,0,0,0,0,rr⟩]):=⟨by rw [U vk,if_neg (fun h=>vi h.1)],by rw [U uE,if_neg vi],by rw [U vj,if_neg vi]⟩
   skip
   exact absurd (U uD).1 oa
 rcases U vP with hs | ⟨ad,nn,cc,hs⟩
 ·simp only [Value.slice.injEq] at hs
  obtain ⟨rfl,pL,rfl⟩:=hs
  obtain rfl:=List.length_eq_zero_iff.1 pL
  obtain ⟨z0,z1,y0,y1,y2,y3,y4,y5,y6,y7⟩:=U xM hb (Below.refl _ _)
  have vI:=Y (World.ownsRow_made (base:=hb.heap.size) (e:=49) (size:=6) hb #[] 0 tg (by decide) rfl)
  have hzX:World.cell? (hb.alloc (E #[] 49)) (yq w 1) = some (.slice none 0 0):=(U xM _ (eE _ _)).2.1
  have kU:=Y HT
  clear HT hK
  go_wp2_with (at_builtin; go_must (refine wpList_append_own_none rfl _ _ 26 rfl hb.heap.size 49 i0 6 Tryz.underlying26 uG (.slice (some (yq hb 0)) 0 0) 0 [] rfl (U vI) rfl ?_))
  exact U kU _ _ _ (U vI) (eE _ _)
 ·simp only [Value.slice.injEq] at hs
  obtain ⟨rfl,rfl,rfl⟩:=hs
  obtain ⟨z0,z1,y0,y1,y2,y3,y4,y5,y6,y7⟩:=U xM hb (Below.refl _ _)
  have uQ:Hid (yn hb (hb.alloc (E #[] 49))):=eE _ _
  have vI:=Y (World.ownsRow_made (base:=hb.heap.size) (e:=49) (size:=6) hb #[] 0 tg (by decide) rfl)
  have hzX:World.cell? (hb.alloc (E #[] 49)) (yq w 1) = some (.slice (some ad) l.length A):=(U xM _ (U uQ)).2.1
  have vh:Hid (∀ j u,(l.flatMap Od.vs)[j]? = some u→World.cell? (hb.alloc (E #[] 49)) (ad.add j) = some u):=rd_src (zn (U HR) ((U HB).2.2.2.2.2.trans ((U uQ).mono (U HB).2.2.2.2.2.size)) tg)
  have kU:=Y HT
  clear HT hK
  go_wp2_with (at_builtin; go_must (refine wpList_append_own _ rfl _ _ 26 rfl hb.heap.size 49 i0 _ 6 56 Tryz.underlying26 uG uF uI uT rfl (by decide) (.slice (some (yq hb 0)) 0 0) 0 [] rfl (U vI) ad l.length A (l.flatMap Od.vs) rfl (by rw [zK Od.len]) (U vh) (bB l) (by unfold maxLen; omega) (by omega) (U uQ).size ?_); intro v1 w1 vf vT _; have vn:=Y vf; have kB:=Y vT; clear vf vT)
  have ay:Hid (ORow w1 hb.heap.size v1 l):=by
   show w1.ownsRow _ _ _ _ l.length _
   simpa using U vn
  obtain ⟨a6,c6,hv⟩:=zU (U ay)
  subst hv
  exact U kU _ _ _ (U ay) ((U uQ).grown (U kB) (U uQ).size (fun k hk=>((U vI).lt k hk).1))
end Go.Proofs.YtbakanofkghmiaaGreat
