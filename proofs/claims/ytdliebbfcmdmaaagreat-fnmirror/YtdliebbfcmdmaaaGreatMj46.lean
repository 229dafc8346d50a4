/-
  A command done on a book, by the model: proved by walking the function.
-/
import Derived.Test.YtdliebbfcmdmaaaGreatMj42
set_option linter.unusedVariables false
set_option maxHeartbeats 6400000
set_option maxRecDepth 100000
namespace Go.Proofs.YtdliebbfcmdmaaaGreat
open Go.RowKit
theorem l04Step_a (next:Int) (vb:Value) (l:List Od) (c:Cm) (w:World) (qU:refR next l c = 0∧c.k = 1) (hr:RdR Od.vs 6 w vb l) (hs:SlOk vb) (hg:GoodL l) (uF:∀ x ∈ l,x.side = 1 ∨ x.side = 2) (h0:0 ≤ next) (Q:next ≤ 1000000) (ht:c.g.size ≤ maxLen) :
  Calls Tryz.prog 36 #[.agg #[H next,vb],cmV c] w fun e w'=>∃ vq vg,e = ym (.tuple #[.agg #[H (stN next l c),vq],vg])∧ORow w' w.heap.size vq (stL next l c)∧ERow w' w.heap.size vg (stE next l c)∧yn w w':=by
 obtain ⟨i0,uE,uA,uC,uM⟩:=info_parts Tryz.infoOrder
 obtain ⟨j0,jd,pO,hy1,hy2⟩:=info_parts infoEv
 have HR:=Y hr
 have vR:=Y hs
 have HG:=Y hg
 have qI:=Y ht
 have vO:=hg.len
 have uG:Hid (0 ≤ next∧next ≤ 1000000):=⟨h0,Q⟩
 have uO:=Y (fun (W:World) hW=>cV next vb l c W hW hs hg uF ht)
 rw [ref_eq] at uO
 have HK:=Y (@cN next l c)
 have HQ:=Y (@bY next l c)
 have qH:=Y (@ref_id next l c)
 have jB:=Y (@ref_newS next l c)
 have uz:=Y qU
 clear qU
 have vl:Hid (stN next l c = if refR next l c = 0∧c.k = 1 then next + 1 else next):=rfl
 have uD:=Y (stL.eq_1 next l c)
 have vk:=Y (stE.eq_1 next l c)
 have oA:=Y (fun W=>dk c W ht)
 have qM:=Y (fun (a:Option Addr) (n A:Nat) (W:World)=>cY next a n A c W)
 have kh:=Y (fun (v:Value) (W:World) hr hs hp jm jn=>cX v l c next W hr hg hs hp jm jn)
 obtain ⟨a,A,rfl,vI,hc⟩:=hr
 obtain ⟨kk,s,X,li,F,ii,pr,O⟩:=c
 generalize stN next l ⟨kk,s,X,li,F,ii,pr,O⟩ = sN at vl ⊢
 generalize stL next l ⟨kk,s,X,li,F,ii,pr,O⟩ = sL at uD ⊢
 generalize stE next l ⟨kk,s,X,li,F,ii,pr,O⟩ = sE at vk ⊢
 generalize refR next l ⟨kk,s,X,li,F,ii,pr,O⟩ = rr at uO vl uD vk HK HQ qH jB uz
 unfold cmV at uO qM ⊢
 simp only at uO vl uD vk HK HQ qH jB oA qM kh qI uz ⊢
 have HB:=Y (box3 w [H next,.slice a l.length A] (yw kk s X li F ii pr O) [H 0,.slice none 0 0] 31 27 31)
 clear hs hg uF h0 Q ht hc vI
 go_enter Tryz.func36,Tryz.ntmps36
 refine ei fun hR xu=>?_
 go_wp2_with fail
 refine U xu _ _ ?_
 clear xu
 change Hid ((((w.alloc (E #[H next,.slice a l.length A] 31)).alloc (E (yw kk s X li F ii pr O).toArray 27)).alloc (E #[H 0,.slice none 0 0] 31)).heap.size = w.heap.size + 3∧World.rangeAt (((w.alloc (E #[H next,.slice a l.length A] 31)).alloc (E (yw kk s X li F ii pr O).toArray 27)).alloc (E #[H 0,.slice none 0 0] 31)) w.heap.size 0 [H next,.slice a l.length A]∧World.rangeAt (((w.alloc (E #[H next,.slice a l.length A] 31)).alloc (E (yw kk s X li F ii pr O).toArray 27)).alloc (E #[H 0,.slice none 0 0] 31)) (w.heap.size + 1) 0 (yw kk s X li F ii pr O)∧World.rangeAt (((w.alloc (E #[H next,.slice a l.length A] 31)).alloc (E (yw kk s X li F ii pr O).toArray 27)).alloc (E #[H 0,.slice none 0 0] 31)) (w.heap.size + 1 + 1) 0 [H 0,.slice none 0 0]∧World.there (((w.alloc (E #[H next,.slice a l.length A] 31)).alloc (E (yw kk s X li F ii pr O).toArray 27)).alloc (E #[H 0,.slice none 0 0] 31)) (w.heap.size + 1 + 1) 0 2∧yn w (((w.alloc (E #[H next,.slice a l.length A] 31)).alloc (E (yw kk s X li F ii pr O).toArray 27)).alloc (E #[H 0,.slice none 0 0] 31))) at HB
 generalize (((w.alloc (E #[H next,.slice a l.length A] 31)).alloc (E (yw kk s X li F ii pr O).toArray 27)).alloc (E #[H 0,.slice none 0 0] 31)) = ty at HB ⊢
 have xM:Hid (∀ W:World,yn ty W→W.cell? (yq w 0) = some (H next)∧W.cell? (yq w 1) = some (.slice a l.length A)∧W.cell? (J (w.heap.size + 1) 0) = some (H kk)∧W.cell? (J (w.heap.size + 1) 1) = some (H s)∧W.cell? (J (w.heap.size + 1) 2) = some (H X)∧W.cell? (J (w.heap.size + 1) 3) = some (H li)∧W.cell? (J (w.heap.size + 1) 4) = some (H F)∧W.cell? (J (w.heap.size + 1) 5) = some (H ii)∧W.cell? (J (w.heap.size + 1) 6) = some (yj pr)∧W.cell? (J (w.heap.size + 1) 7) = some (yk O)):=fun W hW =>
  have p:=zb (U HB).2.1 hW (by have:=(U HB).1; omega)
  have q:=zb (U HB).2.2.1 hW (by have:=(U HB).1; omega)
  ⟨p 0 _ rfl,p 1 _ rfl,q 0 _ rfl,q 1 _ rfl,q 2 _ rfl,q 3 _ rfl,q 4 _ rfl,q 5 _ rfl,q 6 _ rfl,q 7 _ rfl⟩
 have vU:w.heap.size + 1 + 1 < ty.heap.size:=by have:=(U HB).1; omega
 refine wp_seq_k fun hR hK=>?_
 have HT:∀ (a6:Option Addr) (c6:Nat) (w1:World),ORow w1 ty.heap.size (.slice a6 l.length c6) l→yn ty w1→hR { tmps:=#[.agg #[H next,.slice a l.length A],.agg (yw kk s X li F ii pr O).toArray,yp w 0,I (w.heap.size + 1) 0,I (w.heap.size + 1 + 1) 0,.slice none 0 0,.slice a6 l.length c6,M,M,M,M,M,M,M,M,M,M,M,.slice (some (yq ty 0)) 0 0,yp w 1,.slice a l.length A,.slice a6 l.length c6,M,M,M,M,M,M,M,M,M,M,M,M,M,M,M,M,M,M,M,M,M,M,M,M,M,M,M,M,M,M,M,M,M,M,M,M,M,M,M,M,M,M,M,M,M,M,M,M,M,M,M,M,M,M,M,M,M,M,M,M,M,M,M,M,M,M,M,M,M,M,M,M,M,M,M,M,M,M,M,M,M,M,M,M,M,M,M,M,M,M,M,M,M,M,M,M,M,M,M,M,M,M,M,M,M,M,M,M,M,M,M,M,M,M,M,M,M,M,M,M,M,M,M,M,M,M,M,M,M,M,M,M,M,M,M,M,M,M,M,M,M,M,M,M,M,M,M,M,M],defers:=[] } w1:=by
  intro a6 c6 w1 qb xX
  refine hK _ _ ?_
  clear hK
  have vh:=Y qb
  have xW:=Y xX
  clear qb xX
  obtain ⟨z0,z1,y0,y1,y2,y3,y4,y5,y6,y7⟩:=U xM w1 (U xW)
  refine ei fun hR xu=>?_
  go_wp2_with fail
  refine (U uO w1 (zl (U HR) ((U HB).2.2.2.2.2.trans ((U xW).mono (U HB).2.2.2.2.2.size)) tg)).mono ?_
  rintro e w2 ⟨rfl,xZ⟩
  have vW:=Y (zk (U vh) xZ)
  have xF:=Y (eh (U xW) xZ)
  clear z0 z1 y0 y1 y2 y3 y4 y5 y6 y7 xZ vh
  obtain ⟨z0,z1,y0,y1,y2,y3,y4,y5,y6,y7⟩:=U xM w2 (U xF)
  have vX:=Y (zf (U HB).2.2.2.2.1 (U xF) vU)
  have oF:w.heap.size + 1 + 1 < w2.heap.size:=yJ vU (U xF).size
  have xE:=Y ((U HB).2.2.2.2.2.trans ((U xF).mono (U HB).2.2.2.2.2.size))
  have hXw:w.heap.size ≤ ty.heap.size:=by omega
  have hX2:ty.heap.size ≤ w2.heap.size:=(U xF).size
  have ol:=hX2
  by_cases vf:rr = 0
  ·subst vf
   have pF:=U HK rfl
   rcases pF with rfl | rfl | rfl | rfl
   ·have hq:=U HQ rfl rfl
    obtain ⟨hss,hpp,htt,hii⟩:=U jB rfl rfl
    have HMTT:=Y (fun (v:Value) (W:World) hr=>U kh v W hr hss hpp (by omega) hq.2)
    have oU:=Y (bV (c:=⟨1,s,X,li,F,ii,pr,O⟩) (id:=next) 21 l F [] (U HG) (by omega) hq.2)
    have HMF:=Y (dh (c:=⟨1,s,X,li,F,ii,pr,O⟩) (id:=next) 21 l F [])
    have uI:Hid (sN = next + 1∧sL = (if 0 < (matL ⟨1,s,X,li,F,ii,pr,O⟩ next 21 l F []).2.1∧aA X = true then (matL ⟨1,s,X,li,F,ii,pr,O⟩ next 21 l F []).1 ++ [⟨next,s,tkS pr,(matL ⟨1,s,X,li,F,ii,pr,O⟩ next 21 l F []).2.1,li,O⟩] else (matL ⟨1,s,X,li,F,ii,pr,O⟩ next 21 l F []).1)∧sE = ⟨1,⟨1,s,X,li,F,ii,pr,cutB O⟩,next,0,0,0,0⟩ :: (matL ⟨1,s,X,li,F,ii,pr,O⟩ next 21 l F []).2.2 ++ (if 0 < (matL ⟨1,s,X,li,F,ii,pr,O⟩ next 21 l F []).2.1 then [⟨if aA X = true then 4 else 5,zCm,next,0,(matL ⟨1,s,X,li,F,ii,pr,O⟩ next 21 l F []).2.1,0,0⟩] else [])):=⟨by rw [U vl,if_pos ⟨rfl,rfl⟩],by rw [U uD,if_pos rfl,if_pos rfl]; exact acc_l hpp,by rw [U vk,if_pos rfl,if_pos rfl,accE,cutB_tag htt,hii]⟩
    generalize matL ⟨1,s,X,li,F,ii,pr,O⟩ next 21 l F [] = qt at uI HMTT oU HMF
    obtain ⟨FL,Fl,Ft⟩:=qt
    simp only at uI HMTT oU HMF
    generalize tkS pr = tt at uI HMTT qM
    have hFL:=(U oU).1.len
    have hFt:Ft.length ≤ 21:=by simpa using U HMF
    obtain ⟨hn0,hn1⟩:=U uG
    clear vl uD vk HQ qH HK jB kh hpp htt hii hss oU HMF
    go_wp2_with fail
    refine U xu _ _ ?_
    clear xu
    refine ei fun hR xu=>?_
    go_wp2_with fail
    refine (cZ _ l ii w2 (zK (U vW) (by omega))).mono ?_
    generalize plc l ii = pk
    rintro e w3 ⟨rfl,uH⟩
    have qL:=Y (zk (U vW) uH)
    have xT:=Y (eh (U xF) uH)
    clear uH z0 z1 y0 y1 y2 y3 y4 y5 y6 y7 vX xE oF ol
    have vX:=Y (zf (U HB).2.2.2.2.1 (U xT) vU)
    have oF:w.heap.size + 1 + 1 < w3.heap.size:=yJ vU (U xT).size
    have xE:=Y ((U HB).2.2.2.2.2.trans ((U xT).mono (U HB).2.2.2.2.2.size))
    have ol:ty.heap.size ≤ w3.heap.size:=(U xT).size
    obtain ⟨z0,z1,y0,y1,y2,y3,y4,y5,y6,y7⟩:=U xM w3 (U xT)
    have HZ0:=Y z0
    have HZ1:=Y z1
    have HY0:=Y y0
    have HY1:=Y y1
    have HY2:=Y y2
    have HY3:=Y y3
    have HY4:=Y y4
    have HY5:=Y y5
    have HY6:=Y y6
    have HY7:=Y y7
    go_wp2_with fail
    refine U xu _ _ ?_
    clear xu
    refine ei fun hR xu=>?_
    go_wp2_with fail
    refine U xu _ _ ?_
    clear xu
    refine ei fun hR xu=>?_
    clear z0 z1 y0 y1 y2 y3 y4 y5 y6 y7
    refine zh (RYBA (fun f=>{ tmps:=#[.agg #[H next,.slice a l.length A],.agg (yw 1 s X li F ii pr O).toArray,yp w 0,I (w.heap.size + 1) 0,I (w.heap.size + 1 + 1) 0,.slice none 0 0,.slice a6 l.length c6,H 0,H pk,M,M,M,M,M,f 6,M,M,M,.slice (some (yq ty 0)) 0 0,yp w 1,.slice a l.length A,.slice a6 l.length c6,.agg #[H next,.slice a l.length A],.agg (yw 1 s X li F ii pr O).toArray,H 0,H 0,.bool false,M,M,M,M,M,M,M,M,M,.slice a6 l.length c6,I (w.heap.size + 1) 5,H ii,H pk,I (w.heap.size + 1) 0,H 1,.bool false,.bool false,M,M,M,M,M,M,M,M,M,M,M,M,M,M,M,M,.bool false,.bool false,M,M,M,M,M,M,M,M,M,M,M,M,M,M,M,M,.bool false,.bool false,M,M,M,M,M,M,M,M,M,M,M,M,M,M,M,M,M,M,M,M,M,M,M,M,M,M,M,M,M,M,M,M,M,M,M,M,M,M,M,M,M,M,M,M,M,f 0,f 1,f 2,f 3,f 4,f 5,M,M,M,M,M,M,M,M,M,M,M,M,M,M,M,M,M,M,M,M,M,M,M,M,M,M,M,M,M,M,M,M,M,M,M,M,M,M,M,M],defers:=[] }) (CX [.agg (yw 1 s X li F ii pr O).toArray,.agg (yw 1 s X li F ii pr (cutB O)).toArray,yp w 0,H next,.agg (yu 1 1 s X li F ii pr (cutB O) next 0 0 0 0).toArray,M,M] [] (w3.heap.size) 0 [] ([])) 5 (M) (fun f W=>∃ be,f 5 = .slice (some (J be 0)) 1 1∧ERow W w3.heap.size (.slice (some (J be 0)) 1 1) [⟨1,⟨1,s,X,li,F,ii,pr,cutB O⟩,next,0,0,0,0⟩]∧yn ty W∧ORow W ty.heap.size (.slice a6 l.length c6) l) w3) (by kernel_rfl) ?_ ?_ ?_
    ·exact ⟨fun _=>M,rfl,ry_start (by decide),ryb_start rfl⟩
    rotate_left
    ·rintro x xm V i op ⟨f,rfl,K,hA⟩ xo hx Z xy D
     have xz:=Y K
     have qB:=Y hA
     clear hA
     have xn:x[5]? = some false→∀ (p:Addr) u,w3.cell? p = some u→V.cell? p = some u:=fun hn p u hu=>((K.b hn).cell (yK w3 _ hu)).trans hu
     match i,Z with
     | 0,Z =>
      obtain rfl:=ya Z
      have hn:x[5]? = some false:=zw xo 12 0 5 (by kernel_rfl) hx (by simp) xy
      have y0:=xn hn (J (w.heap.size + 1) 0) _ (U HY0)
      have y1:=xn hn (J (w.heap.size + 1) 1) _ (U HY1)
      have y2:=xn hn (J (w.heap.size + 1) 2) _ (U HY2)
      have y3:=xn hn (J (w.heap.size + 1) 3) _ (U HY3)
      have y4:=xn hn (J (w.heap.size + 1) 4) _ (U HY4)
      have y5:=xn hn (J (w.heap.size + 1) 5) _ (U HY5)
      have y6:=xn hn (J (w.heap.size + 1) 6) _ (U HY6)
      have y7:=xn hn (J (w.heap.size + 1) 7) _ (U HY7)
      clear D K xo xn
      rw [if_pos (by rfl)];unfold Oper.wp;go_simp
      exact ⟨upd f 0 (.agg (yw 1 s X li F ii pr O).toArray),by simp [upd],zV (U xz) 0 _ hn (by decide) (zU rfl rfl),zW _ (U qB) (by decide) (by decide)⟩
     | 1,Z =>
      obtain rfl:=ya Z
      have hn:x[5]? = some false:=zw xo 12 1 5 (by kernel_rfl) hx (by simp) xy
      have g0:f 0 = .agg (yw 1 s X li F ii pr O).toArray:=zQ (K.c hn 0 (ye D 0 rfl)) rfl rfl
      clear D K xo xn
      rw [if_pos (by rfl)];unfold Oper.wp;go_simp
      refine (U oA V).mono ?_
      rintro e w4 ⟨rfl,xC⟩
      exact ⟨upd f 1 (.agg (yw 1 s X li F ii pr (cutB O)).toArray),by simp [upd,g0],zV (ry_grow (cx_monoB (by omega)) (U xz) hn xC) 1 _ hn (by decide) (zU rfl rfl),zW _ (U qB) (by decide) (by decide)⟩
     | 2,Z =>
      obtain rfl:=ya Z
      have hn:x[5]? = some false:=zw xo 12 2 5 (by kernel_rfl) hx (by simp) xy
      clear D K xo xn
      rw [if_pos (by rfl)];unfold Oper.wp;go_simp
      exact ⟨upd f 2 (yp w 0),by simp [upd],zV (U xz) 2 _ hn (by decide) (zU rfl rfl),zW _ (U qB) (by decide) (by decide)⟩
     | 3,Z =>
      obtain rfl:=ya Z
      have hn:x[5]? = some false:=zw xo 12 3 5 (by kernel_rfl) hx (by simp) xy
      have g2:f 2 = yp w 0:=zQ (K.c hn 2 (ye D 2 rfl)) rfl rfl
      have z0:=xn hn (yq w 0) _ (U HZ0)
      clear D K xo xn
      rw [if_pos (by rfl)];unfold Oper.wp;go_simp
      exact ⟨upd f 3 (H next),by simp [upd,g2],zV (U xz) 3 _ hn (by decide) (zU rfl rfl),zW _ (U qB) (by decide) (by decide)⟩
     | 4,Z =>
      obtain rfl:=ya Z
      have hn:x[5]? = some false:=zw xo 12 4 5 (by kernel_rfl) hx (by simp) xy
      have g1:f 1 = .agg (yw 1 s X li F ii pr (cutB O)).toArray:=zQ (K.c hn 1 (ye D 1 rfl)) rfl rfl
      have g3:f 3 = H next:=zQ (K.c hn 3 (ye D 3 rfl)) rfl rfl
      clear D K xo xn
      rw [if_pos (by rfl)];unfold Oper.wp;go_simp
      exact ⟨upd f 4 (.agg (yu 1 1 s X li F ii pr (cutB O) next 0 0 0 0).toArray),by simp [upd,g1,g3],zV (U xz) 4 _ hn (by decide) (zU rfl rfl),zW _ (U qB) (by decide) (by decide)⟩
     | 5,Z =>
      obtain rfl:=ya Z
      have hn:x[5]? = some false:=xy
      have g4:f 4 = .agg (yu 1 1 s X li F ii pr (cutB O) next 0 0 0 0).toArray:=zQ (K.c hn 4 (ye D 4 rfl)) rfl rfl
      have ji:x[6]? = some false:=zw xo 12 5 6 (by kernel_rfl) hx (by simp) xy
      have xV:=K.b hn
      have hbA:=ed V (E (yu 1 1 s X li F ii pr (cutB O) next 0 0 0 0).toArray 41)
      have HQQ:Hid (ERow (V.alloc (E (yu 1 1 s X li F ii pr (cutB O) next 0 0 0 0).toArray 41)) w3.heap.size (.slice (some (yq V 0)) 1 1) [⟨1,⟨1,s,X,li,F,ii,pr,cutB O⟩,next,0,0,0,0⟩]∧yn ty (V.alloc (E (yu 1 1 s X li F ii pr (cutB O) next 0 0 0 0).toArray 41))∧ORow (V.alloc (E (yu 1 1 s X li F ii pr (cutB O) next 0 0 0 0).toArray 41)) ty.heap.size (.slice a6 l.length c6) l):=⟨eRow_one V ⟨1,⟨1,s,X,li,F,ii,pr,cutB O⟩,next,0,0,0,0⟩ xV.size,(eh (U xT) xV).trans (hbA.mono (yN (U xT).size xV.size)),zk (zk (U qL) xV) hbA⟩
      clear D K xo xn hbA xV
      rw [if_pos (by rfl)];unfold Oper.wp;go_simp
      exact ⟨upd f 5 (.slice (some (yq V 0)) 1 1),by simp [upd,g4],ry_write (U xz) hn _ ⟨V.heap.size,zn _ _ _,U HQQ⟩,ryb_write _ (U qB) ji⟩
     | 6,Z =>
      obtain rfl:=ya Z
      have hn:x[5]? = some true:=D ⟨5,.data⟩ (by simp) rfl
      clear D K xo xn
      rw [if_pos (by rfl)];unfold Oper.wp;go_simp
      exact ⟨upd f 6 (f 5),by simp [upd],ry_after (U xz) 6 _ hn (by decide) (fun h=>h),ryb_lay xy⟩
     | n + 7,Z=>simp at Z
    ·rintro x xm V ⟨f,rfl,K,hA⟩ hx xP
     have xp:=zP xP hx (by kernel_rfl)
     have e6:f 6 = f 5:=hA.1 (xp 6 (by simp))
     obtain ⟨be,e5,q1,q2,q3⟩:=K.m (xp 5 (by simp))
     rw [e5] at e6
     refine U xu _ _ ?_
     clear xu
     simp only [e5,e6]
     have HE4:=Y q1
     have un:=Y q2
     have oi:=Y q3
     have h3V:w3.heap.size ≤ V.heap.size:=by have:=(U HE4).lt be rfl; omega
     clear K hA xp xP hx q1 q2 q3 e5 e6
     generalize f 0 = tm0,f 1 = tm1,f 2 = tm2,f 3 = tm3,f 4 = tm4
     refine ei fun hR xu=>?_
     obtain ⟨z0,z1,y0,y1,y2,y3,y4,y5,y6,y7⟩:=U xM V (U un)
     go_wp2_with fail
     refine (U qM a l.length A V).mono ?_
     rintro e w5 ⟨rfl,qj⟩
     have qd:=Y (zG (U HE4) qj)
     have km:=Y (eh (U un) qj)
     have kD:=Y (zk (U oi) qj)
     clear qj z0 z1 y0 y1 y2 y3 y4 y5 y6 y7
     go_wp2_with fail
     refine (U HMTT _ w5 (zK (U kD) (by omega))).mono ?_
     rintro e w6 ⟨v6',ve,rfl,hl6,he6,jj⟩
     have hOm:ORow w6 ty.heap.size v6' FL:=by
      rcases hl6 with ⟨Q,N⟩ | h
      ·rw [Q,show FL = l from N]; exact zk (U kD) jj
      ·exact zF h (U km).size
     clear hl6
     obtain ⟨am,cm,rfl⟩:=zR hOm
     obtain ⟨ae,ce,rfl⟩:=zR he6
     have vr:=ed w6 (E (yv next s tt Fl li O).toArray 66)
     have qg:=Y (zG (zG (U qd) jj) vr)
     have jh:=Y (zG he6 vr)
     have oB:=Y (zk hOm vr)
     have og:=Y ((U km).trans ((eh jj vr).mono (U km).size))
     have kG:Hid (World.rangeAt (w6.alloc (E (yv next s tt Fl li O).toArray 66)) w6.heap.size 0 (yv next s tt Fl li O)):=zg w6 (yv next s tt Fl li O) _
     have HTX:Hid (∃ xr,(w6.alloc (E (yv next s tt Fl li O).toArray 66)).heap[w6.heap.size]? = some (.cells xr 66 (0,0))):=⟨_,heap_alloc_new w6 _⟩
     have hlt6:w6.heap.size < (w6.alloc (E (yv next s tt Fl li O).toArray 66)).heap.size:=by rw [ze]; omega
     have hX6:ty.heap.size ≤ w6.heap.size:=yN (U km).size jj.size
     have h35:w3.heap.size ≤ w5.heap.size:=by have:=(U qd).lt be rfl; omega
     clear vr jj hOm he6
     go_wp2_with fail
     refine U xu _ _ ?_
     clear xu
     generalize (w6.alloc (E (yv next s tt Fl li O).toArray 66)) = yb at qg jh oB og kG HTX hlt6 ⊢
     generalize w6.heap.size = tb at kG HTX hlt6 hX6 ⊢
     have hX3:ty.heap.size ≤ w3.heap.size:=(U xT).size
     have hS3:w.heap.size + 1 + 1 < w3.heap.size:=yJ vU hX3
     refine wp_seq_k fun hR hK=>?_
     have vE:∀ (v14:Value) (W:World),ERow W w3.heap.size v14 (⟨1,⟨1,s,X,li,F,ii,pr,cutB O⟩,next,0,0,0,0⟩ :: Ft)→ORow W ty.heap.size (.slice am FL.length cm) FL→W.rangeAt tb 0 (yv next s tt Fl li O)→yn ty W→tb < W.heap.size→w3.heap.size ≤ W.heap.size→hR { tmps:=#[.agg #[H next,.slice a l.length A],.agg (yw 1 s X li F ii pr O).toArray,yp w 0,I (w.heap.size + 1) 0,I (w.heap.size + 1 + 1) 0,.slice none 0 0,.slice am FL.length cm,H 0,H pk,M,M,M,M,M,v14,I tb 0,.slice ae Ft.length ce,M,.slice (some (yq ty 0)) 0 0,yp w 1,.slice a l.length A,.slice a6 l.length c6,.agg #[H next,.slice a l.length A],.agg (yw 1 s X li F ii pr O).toArray,H 0,H 0,.bool false,M,M,M,M,M,M,M,M,M,.slice a6 l.length c6,I (w.heap.size + 1) 5,H ii,H pk,I (w.heap.size + 1) 0,H 1,.bool false,.bool false,M,M,M,M,M,M,M,M,M,M,M,M,M,M,M,M,.bool false,.bool false,M,M,M,M,M,M,M,M,M,M,M,M,M,M,M,M,.bool false,.bool false,M,M,M,M,M,M,M,M,M,M,M,M,M,M,M,M,M,M,M,M,M,M,M,M,M,M,M,M,M,M,M,M,M,M,M,M,M,M,M,M,M,M,M,M,M,tm0,tm1,tm2,tm3,tm4,.slice (some (J be 0)) 1 1,.tuple #[.slice am FL.length cm,.agg (yv next s tt Fl li O).toArray,.slice ae Ft.length ce],.slice a6 l.length c6,.agg #[H next,.slice a l.length A],.agg (yw 1 s X li F ii pr O).toArray,.agg (yv next s tt F li O).toArray,.tuple #[.slice am FL.length cm,.agg (yv next s tt Fl li O).toArray,.slice ae Ft.length ce],.slice am FL.length cm,.agg (yv next s tt Fl li O).toArray,.slice ae Ft.length ce,.slice (some (J be 0)) 1 1,.slice ae Ft.length ce,v14,M,M,M,M,M,M,M,M,M,M,M,M,M,M,M,M,M,M,M,M,M,M,M,M,M,M,M,M],defers:=[] } W:=by
      intro v14 W he Z oT qZ htb h3W0
      refine hK _ _ ?_
      clear hK HTX kG qg jh oB og hlt6 qd kD km HE4 oi un HMTT qM oA
      have hlev:(⟨1,⟨1,s,X,li,F,ii,pr,cutB O⟩,next,0,0,0,0⟩ :: Ft:List Ev).length ≤ 100:=by simp; omega
      generalize hevs:(⟨1,⟨1,s,X,li,F,ii,pr,cutB O⟩,next,0,0,0,0⟩ :: Ft:List Ev) = evs at he hlev
      have HEVS:=Y hevs
      have vJ:=Y he
      have jS:=Y Z
      have HTKV:=Y oT
      have xv:=Y qZ
      clear he Z oT qZ hevs
      have q0:W.cell? (J tb 0) = some (H next):=U HTKV 0 _ rfl
      have q3:W.cell? (J tb 3) = some (H Fl):=U HTKV 3 _ rfl
      refine ei fun K3 vA=>?_
      by_cases hFl:0 < Fl
      ·have oH:yn W (W.alloc (E (yu 5 0 0 0 0 0 0 0 ⟨#[]⟩ next 0 Fl 0 0).toArray 41)):=ed _ _
       have hy2:World.cell? (W.alloc (E (yu 5 0 0 0 0 0 0 0 ⟨#[]⟩ next 0 Fl 0 0).toArray 41)) (J (w.heap.size + 1) 2) = some (H X):=(U xM _ (eh (U xv) oH)).2.2.2.2.1
       have HEW:=Y (zG (U vJ) oH)
       have HLW:=Y (zk (U jS) oH)
       have ot:=Y (eh (U xv) oH)
       have kt:=Y (zb (U HTKV) oH htb)
       have H3W:Hid (w3.heap.size ≤ (W.alloc (E (yu 5 0 0 0 0 0 0 0 ⟨#[]⟩ next 0 Fl 0 0).toArray 41)).heap.size):=yN h3W0 oH.size
       have ql:Hid (World.rangeAt (W.alloc (E (yu 5 0 0 0 0 0 0 0 ⟨#[]⟩ next 0 Fl 0 0).toArray 41)) W.heap.size 0 (Ev.vs ⟨5,zCm,next,0,Fl,0,0⟩)):=zg W (Ev.vs ⟨5,zCm,next,0,Fl,0,0⟩) _
       have HXT:Hid (World.there (W.alloc (E (yu 5 0 0 0 0 0 0 0 ⟨#[]⟩ next 0 Fl 0 0).toArray 41)) W.heap.size 0 14):=zu W (Ev.vs ⟨5,zCm,next,0,Fl,0,0⟩) _
       have htb7:tb < (W.alloc (E (yu 5 0 0 0 0 0 0 0 ⟨#[]⟩ next 0 Fl 0 0).toArray 41)).heap.size:=yJ htb oH.size
       have hebX:ty.heap.size ≤ W.heap.size:=(U xv).size
       have heb7:W.heap.size < (W.alloc (E (yu 5 0 0 0 0 0 0 0 ⟨#[]⟩ next 0 Fl 0 0).toArray 41)).heap.size:=by rw [ze]; omega
       have htbe:tb ≠ W.heap.size:=by omega
       have HXB:Hid (∃ xr,(W.alloc (E (yu 5 0 0 0 0 0 0 0 ⟨#[]⟩ next 0 Fl 0 0).toArray 41)).heap[W.heap.size]? = some (.cells xr 41 (0,0))):=⟨_,heap_alloc_new W _⟩
       have hebE:Hid (∀ g,v14.ownBlock = some g→g ≠ W.heap.size):=fun g hg=>by have:=((U vJ).lt g hg).2; omega
       have hsf:=sfl
       clear oH
       go_wp2_with fail
       refine (cj X _).mono ?_
       rintro e w' ⟨rfl,ul⟩
       rw [ul]
       clear ul w' q0 q3
       generalize (W.alloc (E (yu 5 0 0 0 0 0 0 0 ⟨#[]⟩ next 0 Fl 0 0).toArray 41)) = W7 at HEW HLW ot kt H3W ql HXT HXB htb7 heb7 hy2 ⊢
       generalize W.heap.size = eb at ql HXT HXB hebX heb7 htbe hebE ⊢
       clear hy2
       cases qA:aA X
       ·have x0:W7.cell? (J eb 0) = some (H 5):=U ql 0 _ rfl
        have x1:W7.cell? (J eb 1) = some (H 0):=U ql 1 _ rfl
        have x2:W7.cell? (J eb 2) = some (H 0):=U ql 2 _ rfl
        have x3:W7.cell? (J eb 3) = some (H 0):=U ql 3 _ rfl
        have x4:W7.cell? (J eb 4) = some (H 0):=U ql 4 _ rfl
        have x5:W7.cell? (J eb 5) = some (H 0):=U ql 5 _ rfl
        have x6:W7.cell? (J eb 6) = some (H 0):=U ql 6 _ rfl
        have x7:W7.cell? (J eb 7) = some (yj 0):=U ql 7 _ rfl
        have x8:W7.cell? (J eb 8) = some (yk ⟨#[]⟩):=U ql 8 _ rfl
        have x9:W7.cell? (J eb 9) = some (H next):=U ql 9 _ rfl
        have x10:W7.cell? (J eb 10) = some (H 0):=U ql 10 _ rfl
        have x11:W7.cell? (J eb 11) = some (H Fl):=U ql 11 _ rfl
        have x12:W7.cell? (J eb 12) = some (H 0):=U ql 12 _ rfl
        have x13:W7.cell? (J eb 13) = some (H 0):=U ql 13 _ rfl
        have HEA:=Y ((U HEW).alloc (E (yu 5 0 0 0 0 0 0 0 ⟨#[]⟩ next 0 Fl 0 0).toArray 41))
        have qJ:Hid (yn W7 (W7.alloc (E (yu 5 0 0 0 0 0 0 0 ⟨#[]⟩ next 0 Fl 0 0).toArray 41))):=ed _ _
        have h3W:w3.heap.size ≤ W7.heap.size:=U H3W
        go_wp2_with (at_builtin; go_must (refine wpList_append_own _ rfl _ _ 39 rfl w3.heap.size 41 j0 _ 14 120 Tryz.underlying39 jd pO hy1 hy2 rfl (by decide) v14 evs.length (evs.flatMap Ev.vs) rfl (U HEA) (yq W7 0) 1 1 (Ev.vs ⟨5,zCm,next,0,Fl,0,0⟩) rfl rfl (bT W7 (Ev.vs ⟨5,zCm,next,0,Fl,0,0⟩) 41) (one_ev ⟨5,zCm,next,0,Fl,0,0⟩) (by unfold maxLen; omega) (by omega) (yN h3W (U qJ).size) ?_); intro v5 w9 vz ak _; have HO9:=Y vz; have HG9:=Y ak; clear vz ak)
        have HE9:Hid (ERow w9 w3.heap.size v5 (evs ++ [⟨5,zCm,next,0,Fl,0,0⟩])):=by
         show w9.ownsRow _ _ _ _ (evs ++ [(⟨5,zCm,next,0,Fl,0,0⟩:Ev)]).length _
         rw [yP,List.flatMap_append]
         simpa using U HO9
        have HL9:=Y (World.ownsRow.kept (zk (U HLW) (U qJ)) (U HG9) (zA (zk (U HLW) (U qJ)) (U HEA) (by decide)))
        have kQ:Hid (yn ty w9):=by
         have Q:=(U ot).trans ((U qJ).mono (U ot).size)
         exact Q.grown (U HG9) Q.size (fun g hg=>yN hX3 ((U HEA).lt g hg).1)
        clear HO9 HG9 HEA qJ
        go_wp2_with fail
        refine U vA _ _ ?_
        clear vA
        obtain ⟨z0,z1,y0,y1,y2,y3,y4,y5,y6,y7⟩:=U xM w9 (U kQ)
        have qh:=zf (U HB).2.2.2.2.1 (U kQ) vU
        obtain ⟨p0,x0,f0⟩:=zc qh (j:=0) (by omega)
        obtain ⟨p1,x1,f1⟩:=zc qh (j:=1) (by omega)
        have hBW:=(U HB).2.2.2.2.2.trans ((U kQ).mono (U HB).2.2.2.2.2.size)
        have HWF:Hid (yn w ((w9.setCell (J (w.heap.size + 1 + 1) 0) (H (next + 1))).setCell (J (w.heap.size + 1 + 1) 1) (.slice am FL.length cm))):=(hBW.setCell (p:=(J (w.heap.size + 1 + 1) 0)) (show w.heap.size ≤ w.heap.size + 1 + 1 by omega) _).setCell (p:=(J (w.heap.size + 1 + 1) 1)) (show w.heap.size ≤ w.heap.size + 1 + 1 by omega) _
        have HEF:Hid (ERow ((w9.setCell (J (w.heap.size + 1 + 1) 0) (H (next + 1))).setCell (J (w.heap.size + 1 + 1) 1) (.slice am FL.length cm)) w.heap.size v5 (evs ++ [⟨5,zCm,next,0,Fl,0,0⟩])):=zF (cy (cy (U HE9) hS3 0 _) hS3 1 _) (by omega)
        have HLF:Hid (ORow ((w9.setCell (J (w.heap.size + 1 + 1) 0) (H (next + 1))).setCell (J (w.heap.size + 1 + 1) 1) (.slice am FL.length cm)) w.heap.size (.slice am FL.length cm) (FL)):=zF (bw (bw (U HL9) vU 0 _) vU 1 _) hXw
        have ow:Hid (((w9.setCell (J (w.heap.size + 1 + 1) 0) (H (next + 1))).setCell (J (w.heap.size + 1 + 1) 1) (.slice am FL.length cm)).cell? (J (w.heap.size + 1 + 1) 0) = some (H (next + 1))):=(yL _ _ _ _ (zO (by decide))).trans (yM _ _ _ x0)
        have qV:Hid (((w9.setCell (J (w.heap.size + 1 + 1) 0) (H (next + 1))).setCell (J (w.heap.size + 1 + 1) 1) (.slice am FL.length cm)).cell? (J (w.heap.size + 1 + 1) 1) = some (.slice am FL.length cm)):=yM _ _ _ ((yL _ _ _ _ (zO (by decide))).trans x1)
        clear qh hBW y0 y1 y2 y3 y4 y5 y6 y7
        go_wp2_with fail
        have d0:=U ow
        have d1:=U qV
        try simp only [Exit.inBlock,Exit.then]
        refine bodyPost_ret (by simp [results,Tryz.results36,go_sem,d0,d1]; try rfl) rfl ?_
        obtain ⟨rfl,kA,kc⟩:=U uI
        rw [if_neg (fun h=>by rw [qA] at h; cases h.2)] at kA
        rw [if_pos hFl,if_neg (by rw [qA]; simp),U HEVS] at kc
        subst kA kc
        exact ⟨_,_,rfl,U HLF,U HEF,U HWF⟩
       ·have xe0:W7.cell? (J eb 0) = some (H 5):=U ql 0 _ rfl
        have fe0:W7.frozen? (J eb 0) = false:=(U HXT 0 (by omega)).2
        have HEW8:Hid (ERow (W7.setCell (J eb 0) (H 4)) w3.heap.size v14 evs):=zr (U HEW) (fun e=>U hebE eb e.symm rfl) 0 _
        have HLW8:Hid (ORow (W7.setCell (J eb 0) (H 4)) ty.heap.size (.slice am FL.length cm) FL):=zr (U HLW) (zj (U HLW) (U HXB) (by decide)) 0 _
        have HBW8:Hid (yn ty (W7.setCell (J eb 0) (H 4))):=(U ot).setCell (p:=(J eb 0)) hebX _
        have HTKW8:Hid (World.rangeAt (W7.setCell (J eb 0) (H 4)) tb 0 (yv next s tt Fl li O)):=fun j u R=>(yL _ _ _ _ (fun e=>htbe (congrArg Addr.block e).symm)).trans (U kt j u R)
        have HXR8:Hid (World.rangeAt (W7.setCell (J eb 0) (H 4)) eb 0 (Ev.vs ⟨4,zCm,next,0,Fl,0,0⟩)):=by have:=bW (j:=0) (u:=H 4) (U ql) (by rw [Ev.len]; decide); exact this
        have H3W8:Hid (w3.heap.size ≤ (W7.setCell (J eb 0) (H 4)).heap.size):=by have:=U H3W; simp only [World.setCell,Array.size_modify]; exact this
        have heb8:eb < (W7.setCell (J eb 0) (H 4)).heap.size:=by simp only [World.setCell,Array.size_modify]; exact heb7
        have htb8:tb < (W7.setCell (J eb 0) (H 4)).heap.size:=by simp only [World.setCell,Array.size_modify]; exact htb7
        clear HEW HLW ot kt ql H3W HXT HXB
        go_wp2_with fail
        clear xe0 fe0
        generalize (W7.setCell (J eb 0) (H 4)) = W8 at HEW8 HLW8 HBW8 HTKW8 HXR8 H3W8 heb8 htb8 ⊢
        have HLW:=Y (U HLW8)
        have kt:=Y (U HTKW8)
        refine zh (RZBA (fun f=>{ tmps:=#[.agg #[H next,.slice a l.length A],.agg (yw 1 s X li F ii pr O).toArray,yp w 0,I (w.heap.size + 1) 0,I (w.heap.size + 1 + 1) 0,.slice none 0 0,f 6,H 0,H pk,M,M,M,M,M,v14,I tb 0,.slice ae Ft.length ce,I eb 0,.slice (some (yq ty 0)) 0 0,yp w 1,.slice a l.length A,.slice a6 l.length c6,.agg #[H next,.slice a l.length A],.agg (yw 1 s X li F ii pr O).toArray,H 0,H 0,.bool false,M,M,M,M,M,M,M,M,M,.slice a6 l.length c6,I (w.heap.size + 1) 5,H ii,H pk,I (w.heap.size + 1) 0,H 1,.bool false,.bool false,M,M,M,M,M,M,M,M,M,M,M,M,M,M,M,M,.bool false,.bool false,M,M,M,M,M,M,M,M,M,M,M,M,M,M,M,M,.bool false,.bool false,M,M,M,M,M,M,M,M,M,M,M,M,M,M,M,M,M,M,M,M,M,M,M,M,M,M,M,M,M,M,M,M,M,M,M,M,M,M,M,M,M,M,M,M,M,tm0,tm1,tm2,tm3,tm4,.slice (some (J be 0)) 1 1,.tuple #[.slice am FL.length cm,.agg (yv next s tt Fl li O).toArray,.slice ae Ft.length ce],.slice a6 l.length c6,.agg #[H next,.slice a l.length A],.agg (yw 1 s X li F ii pr O).toArray,.agg (yv next s tt F li O).toArray,.tuple #[.slice am FL.length cm,.agg (yv next s tt Fl li O).toArray,.slice ae Ft.length ce],.slice am FL.length cm,.agg (yv next s tt Fl li O).toArray,.slice ae Ft.length ce,.slice (some (J be 0)) 1 1,.slice ae Ft.length ce,v14,I tb 3,H Fl,.bool true,I tb 0,H next,I tb 3,H Fl,.agg (yu 5 0 0 0 0 0 0 0 ⟨#[]⟩ next 0 Fl 0 0).toArray,I (w.heap.size + 1) 2,H X,.bool true,I eb 0,f 0,f 1,f 2,f 3,f 4,f 5,M,M,M,M,M,M,M,M,M,M],defers:=[] }) (CZ (.slice am FL.length cm) (.agg (yv next s tt Fl li O).toArray)) W8 FL ⟨next,s,tt,Fl,li,O⟩ (.slice am FL.length cm)) (by kernel_rfl) ?_ ?_ ?_
        ·exact ⟨fun j=>if j = 6 then .slice am FL.length cm else M,rfl,rz_start,ryb_start rfl⟩
        rotate_left
        ·rintro x xm V i op ⟨f,rfl,K,hA⟩ xo hx Z xy D
         have xz:=Y K
         have qB:=Y hA
         clear hA
         have xn:∀ (p:Addr) u,W8.cell? p = some u→V.cell? p = some u:=fun p u hu=>(K.bel.cell (yK W8 _ hu)).trans hu
         match i,Z with
         | 0,Z =>
          obtain rfl:=ya Z
          clear D K xo xn
          rw [if_pos (by rfl)];unfold Oper.wp;go_simp
          exact ⟨upd f 0 (.slice (some (yq V 0)) 0 0),by simp [upd],rz_0 (U xz) xy (fun _=>trivial),zW _ (U qB) (by decide) (by decide)⟩
         | 1,Z =>
          obtain rfl:=ya Z
          have g6:f 6 = .slice am FL.length cm:=(U qB).2 (zw xo 12 1 6 (by kernel_rfl) hx (by simp) xy)
          clear D K xo xn
          rw [if_pos (by rfl)];unfold Oper.wp;go_simp
          exact ⟨upd f 1 (.slice am FL.length cm),by simp [upd,g6],rz_val (U xz) 1 _ rfl (by decide) (by decide) (by decide) (by decide),zW _ (U qB) (by decide) (by decide)⟩
         | 2,Z =>
          obtain rfl:=ya Z
          have k0:x[0]? = some true:=D ⟨0,.data⟩ (by simp) rfl
          have g1:f 1 = .slice am FL.length cm:=K.c 1 (ye D 1 rfl)
          have n5:x[5]? = some false:=zw xo 12 2 5 (by kernel_rfl) hx (by simp) xy
          have vG:=Y (K.m0 k0 xy)
          have xV:=K.bel
          have HRDV:Hid (∀ ad,am = some ad→∀ j u,(FL.flatMap Od.vs)[j]? = some u→V.cell? (ad.add j) = some u):=fun ad had=>by
           have h:=zK (zk (U HLW) xV) (by omega)
           rw [had] at h
           exact rd_src h
          have HSLV:=Y (oRow_sl (U HLW))
          clear D K xo xn
          rw [if_pos (by rfl)]
          rcases U HSLV with h | ⟨ad,nn,cc,h⟩
          ·simp only [Value.slice.injEq] at h
           have hL:FL = []:=List.length_eq_zero_iff.1 h.2.1
           refine ec (.tmp 155) (.tmp 156) 29 rfl W8.heap.size 66 i0 6 Tryz.underlying29 uE (f 0) 0 [] rfl (U vG) (by show f 1 = _; rw [g1,h.1,h.2.1,h.2.2]) ?_
           exact ⟨upd f 2 (f 0),rfl,rz_2 (U xz) k0 xy n5 (fun _=>trivial) (by rw [hL]; exact U vG) (yR _ _),zW _ (U qB) (by decide) (by decide)⟩
          ·simp only [Value.slice.injEq] at h
           refine wp_append_own V (.tmp 155) (.tmp 156) 29 rfl W8.heap.size 66 i0 _ 6 56 Tryz.underlying29 uE uA uC uM rfl (by decide) (f 0) 0 [] rfl (U vG) ad FL.length cm (FL.flatMap Od.vs) (by show f 1 = _; rw [g1,h.1]) (by rw [zH Od.len]) (U HRDV ad h.1) (bd FL) (by unfold maxLen; omega) (by omega) xV.size ?_
           intro v' w' xL ub _
           refine ⟨upd f 2 v',rfl,rz_2 (U xz) k0 xy n5 (fun _=>trivial) ?_ ub,zW _ (U qB) (by decide) (by decide)⟩
           show w'.ownsRow _ _ _ _ FL.length _
           simpa using xL
         | 3,Z =>
          obtain rfl:=ya Z
          have t0:=xn (J tb 0) _ (U kt 0 _ rfl)
          have t1:=xn (J tb 1) _ (U kt 1 _ rfl)
          have t2:=xn (J tb 2) _ (U kt 2 _ rfl)
          have t3:=xn (J tb 3) _ (U kt 3 _ rfl)
          have t4:=xn (J tb 4) _ (U kt 4 _ rfl)
          have t5:=xn (J tb 5) _ (U kt 5 _ rfl)
          clear D K xo xn
          rw [if_pos (by rfl)];unfold Oper.wp;go_simp
          exact ⟨upd f 3 (.agg (yv next s tt Fl li O).toArray),by simp [upd],rz_val (U xz) 3 _ rfl (by decide) (by decide) (by decide) (by decide),zW _ (U qB) (by decide) (by decide)⟩
         | 4,Z =>
          obtain rfl:=ya Z
          have g3:f 3 = .agg (yv next s tt Fl li O).toArray:=K.c 3 (ye D 3 rfl)
          have n5:x[5]? = some false:=zw xo 12 4 5 (by kernel_rfl) hx (by simp) xy
          clear D K xo xn
          rw [if_pos (by rfl)];unfold Oper.wp;go_simp
          exact ⟨upd f 4 (.slice (some (yq V 0)) 1 1),by simp [upd,g3],rz_4 (U xz) xy n5 (fun _=>trivial),zW _ (U qB) (by decide) (by decide)⟩
         | 5,Z =>
          obtain rfl:=ya Z
          have k2:x[2]? = some true:=D ⟨2,.data⟩ (by simp) rfl
          obtain ⟨b4,g4,xX,xZ,uH,-⟩:=K.m4 (ye D 4 rfl) xy
          have vW:=Y (K.m2 k2 xy)
          have xV:=K.bel
          have h6:x[6]? = some false:=zw xo 12 5 6 (by kernel_rfl) hx (by simp) xy
          have uZ:Hid (∀ j u,(Od.vs ⟨next,s,tt,Fl,li,O⟩)[j]? = some u→V.cell? (((J b4 0):Addr).add j) = some u):=fun j u hu=>by
           have:=uH j u hu
           rw [Addr.add_mid]; exact this
          clear D K xo uH xn
          rw [if_pos (by rfl)]
          refine wp_append_own V (.tmp 157) (.tmp 159) 29 rfl W8.heap.size 66 i0 _ 6 56 Tryz.underlying29 uE uA uC uM rfl (by decide) (f 2) FL.length (FL.flatMap Od.vs) rfl (U vW) (J b4 0) 1 1 (Od.vs ⟨next,s,tt,Fl,li,O⟩) (by show f 4 = _; exact g4) rfl (U uZ) (one_od ⟨next,s,tt,Fl,li,O⟩) (by unfold maxLen; omega) (by omega) xV.size ?_
          intro v' w' xL ub _
          refine ⟨upd f 5 v',rfl,rz_5 (U xz) k2 xy (fun _=>trivial) ?_ ub,ryb_write v' (U qB) h6⟩
          show w'.ownsRow _ _ _ _ (FL ++ [(⟨next,s,tt,Fl,li,O⟩:Od)]).length _
          rw [yP,List.flatMap_append]
          simpa using xL
         | 6,Z =>
          obtain rfl:=ya Z
          have k5:x[5]? = some true:=D ⟨5,.data⟩ (by simp) rfl
          clear D K xo xn
          rw [if_pos (by rfl)];unfold Oper.wp;go_simp
          exact ⟨upd f 6 (f 5),by simp [upd],rz_val (U xz) 6 _ trivial (by decide) (by decide) (by decide) (by decide),ryb_lay xy⟩
         | n + 7,Z=>simp at Z
        ·rintro x xm V ⟨f,rfl,K,hA⟩ hx xP
         have xp:=zP xP hx (by kernel_rfl)
         have e6:f 6 = f 5:=hA.1 (xp 6 (by simp))
         have hO5:=K.m5 (xp 5 (by simp))
         have xV:=K.bel
         obtain ⟨aL,cL,hvL⟩:=zR hO5
         rw [hvL] at hO5 e6
         generalize (FL ++ [(⟨next,s,tt,Fl,li,O⟩:Od)]).length = nL at hO5 e6
         simp only [e6]
         have HLW:=Y (zF hO5 (show ty.heap.size ≤ W8.heap.size from (U HBW8).size))
         have HEW:=Y (zG (U HEW8) xV)
         have ot:=Y (eh (U HBW8) xV)
         have ql:=Y (zb (U HXR8) xV heb8)
         have H3W:Hid (w3.heap.size ≤ V.heap.size):=yN (U H3W8) xV.size
         clear K hA xp xP hx hO5 xV e6 hvL
         generalize f 0 = tn0,f 1 = tn1,f 2 = tn2,f 3 = tn3,f 4 = tn4,f 5 = tn5
         obtain ⟨x0,x1,x2,x3,x4,x5,x6,x7,x8,x9,x10,x11,x12,x13⟩:=yF (U ql)
         have HEA:=Y ((U HEW).alloc (E (yu 4 0 0 0 0 0 0 0 ⟨#[]⟩ next 0 Fl 0 0).toArray 41))
         have qJ:Hid (yn V (V.alloc (E (yu 4 0 0 0 0 0 0 0 ⟨#[]⟩ next 0 Fl 0 0).toArray 41))):=ed _ _
         have h3W:w3.heap.size ≤ V.heap.size:=U H3W
         go_wp2_with (at_builtin; go_must (refine wpList_append_own _ rfl _ _ 39 rfl w3.heap.size 41 j0 _ 14 120 Tryz.underlying39 jd pO hy1 hy2 rfl (by decide) v14 evs.length (evs.flatMap Ev.vs) rfl (U HEA) (yq V 0) 1 1 (Ev.vs ⟨4,zCm,next,0,Fl,0,0⟩) rfl rfl (bT V (Ev.vs ⟨4,zCm,next,0,Fl,0,0⟩) 41) (one_ev ⟨4,zCm,next,0,Fl,0,0⟩) (by unfold maxLen; omega) (by omega) (yN h3W (U qJ).size) ?_); intro v5 w9 vz ak _; have HO9:=Y vz; have HG9:=Y ak; clear vz ak)
         have HE9:Hid (ERow w9 w3.heap.size v5 (evs ++ [⟨4,zCm,next,0,Fl,0,0⟩])):=by
          show w9.ownsRow _ _ _ _ (evs ++ [(⟨4,zCm,next,0,Fl,0,0⟩:Ev)]).length _
          rw [yP,List.flatMap_append]
          simpa using U HO9
         have HL9:=Y (World.ownsRow.kept (zk (U HLW) (U qJ)) (U HG9) (zA (zk (U HLW) (U qJ)) (U HEA) (by decide)))
         have kQ:Hid (yn ty w9):=by
          have Q:=(U ot).trans ((U qJ).mono (U ot).size)
          exact Q.grown (U HG9) Q.size (fun g hg=>yN hX3 ((U HEA).lt g hg).1)
         clear HO9 HG9 HEA qJ
         go_wp2_with fail
         refine U vA _ _ ?_
         clear vA
         obtain ⟨z0,z1,y0,y1,y2,y3,y4,y5,y6,y7⟩:=U xM w9 (U kQ)
         have qh:=zf (U HB).2.2.2.2.1 (U kQ) vU
         obtain ⟨p0,x0,f0⟩:=zc qh (j:=0) (by omega)
         obtain ⟨p1,x1,f1⟩:=zc qh (j:=1) (by omega)
         have hBW:=(U HB).2.2.2.2.2.trans ((U kQ).mono (U HB).2.2.2.2.2.size)
         have HWF:Hid (yn w ((w9.setCell (J (w.heap.size + 1 + 1) 0) (H (next + 1))).setCell (J (w.heap.size + 1 + 1) 1) (.slice aL nL cL))):=(hBW.setCell (p:=(J (w.heap.size + 1 + 1) 0)) (show w.heap.size ≤ w.heap.size + 1 + 1 by omega) _).setCell (p:=(J (w.heap.size + 1 + 1) 1)) (show w.heap.size ≤ w.heap.size + 1 + 1 by omega) _
         have HEF:Hid (ERow ((w9.setCell (J (w.heap.size + 1 + 1) 0) (H (next + 1))).setCell (J (w.heap.size + 1 + 1) 1) (.slice aL nL cL)) w.heap.size v5 (evs ++ [⟨4,zCm,next,0,Fl,0,0⟩])):=zF (cy (cy (U HE9) hS3 0 _) hS3 1 _) (by omega)
         have HLF:Hid (ORow ((w9.setCell (J (w.heap.size + 1 + 1) 0) (H (next + 1))).setCell (J (w.heap.size + 1 + 1) 1) (.slice aL nL cL)) w.heap.size (.slice aL nL cL) (FL ++ [⟨next,s,tt,Fl,li,O⟩])):=zF (bw (bw (U HL9) vU 0 _) vU 1 _) hXw
         have ow:Hid (((w9.setCell (J (w.heap.size + 1 + 1) 0) (H (next + 1))).setCell (J (w.heap.size + 1 + 1) 1) (.slice aL nL cL)).cell? (J (w.heap.size + 1 + 1) 0) = some (H (next + 1))):=(yL _ _ _ _ (zO (by decide))).trans (yM _ _ _ x0)
         have qV:Hid (((w9.setCell (J (w.heap.size + 1 + 1) 0) (H (next + 1))).setCell (J (w.heap.size + 1 + 1) 1) (.slice aL nL cL)).cell? (J (w.heap.size + 1 + 1) 1) = some (.slice aL nL cL)):=yM _ _ _ ((yL _ _ _ _ (zO (by decide))).trans x1)
         clear qh hBW y0 y1 y2 y3 y4 y5 y6 y7
         go_wp2_with fail
         have d0:=U ow
         have d1:=U qV
         try simp only [Exit.inBlock,Exit.then]
         refine bodyPost_ret (by simp [results,Tryz.results36,go_sem,d0,d1]; try rfl) rfl ?_
         obtain ⟨rfl,kA,kc⟩:=U uI
         rw [if_pos ⟨hFl,qA⟩] at kA
         rw [if_pos hFl,if_pos qA,U HEVS] at kc
         subst kA kc
         exact ⟨_,_,rfl,U HLF,U HEF,U HWF⟩
      ·go_wp2_with fail
       refine U vA _ _ ?_
       clear vA
       obtain ⟨z0,z1,y0,y1,y2,y3,y4,y5,y6,y7⟩:=U xM W (U xv)
       have qh:=zf (U HB).2.2.2.2.1 (U xv) vU
       obtain ⟨p0,x0,f0⟩:=zc qh (j:=0) (by omega)
       obtain ⟨p1,x1,f1⟩:=zc qh (j:=1) (by omega)
       have hBW:=(U HB).2.2.2.2.2.trans ((U xv).mono (U HB).2.2.2.2.2.size)
       have HWF:Hid (yn w ((W.setCell (J (w.heap.size + 1 + 1) 0) (H (next + 1))).setCell (J (w.heap.size + 1 + 1) 1) (.slice am FL.length cm))):=(hBW.setCell (p:=(J (w.heap.size + 1 + 1) 0)) (show w.heap.size ≤ w.heap.size + 1 + 1 by omega) _).setCell (p:=(J (w.heap.size + 1 + 1) 1)) (show w.heap.size ≤ w.heap.size + 1 + 1 by omega) _
       have HEF:Hid (ERow ((W.setCell (J (w.heap.size + 1 + 1) 0) (H (next + 1))).setCell (J (w.heap.size + 1 + 1) 1) (.slice am FL.length cm)) w.heap.size v14 (evs)):=zF (cy (cy (U vJ) hS3 0 _) hS3 1 _) (by omega)
       have HLF:Hid (ORow ((W.setCell (J (w.heap.size + 1 + 1) 0) (H (next + 1))).setCell (J (w.heap.size + 1 + 1) 1) (.slice am FL.length cm)) w.heap.size (.slice am FL.length cm) (FL)):=zF (bw (bw (U jS) vU 0 _) vU 1 _) hXw
       have ow:Hid (((W.setCell (J (w.heap.size + 1 + 1) 0) (H (next + 1))).setCell (J (w.heap.size + 1 + 1) 1) (.slice am FL.length cm)).cell? (J (w.heap.size + 1 + 1) 0) = some (H (next + 1))):=(yL _ _ _ _ (zO (by decide))).trans (yM _ _ _ x0)
       have qV:Hid (((W.setCell (J (w.heap.size + 1 + 1) 0) (H (next + 1))).setCell (J (w.heap.size + 1 + 1) 1) (.slice am FL.length cm)).cell? (J (w.heap.size + 1 + 1) 1) = some (.slice am FL.length cm)):=yM _ _ _ ((yL _ _ _ _ (zO (by decide))).trans x1)
       clear qh hBW y0 y1 y2 y3 y4 y5 y6 y7
       go_wp2_with fail
       have d0:=U ow
       have d1:=U qV
       try simp only [Exit.inBlock,Exit.then]
       refine bodyPost_ret (by simp [results,Tryz.results36,go_sem,d0,d1]; try rfl) rfl ?_
       obtain ⟨rfl,kA,kc⟩:=U uI
       rw [if_neg (fun h=>by have:=h.1; omega)] at kA
       rw [if_neg (by omega),List.append_nil,U HEVS] at kc
       subst kA kc
       exact ⟨_,_,rfl,U HLF,U HEF,U HWF⟩
     have HT2':=Y vE
     clear vE hK
     have h3Y:w3.heap.size ≤ yb.heap.size:=by have:=(U qg).lt be rfl; omega
     rcases (U jh).2 with ⟨hv,h0⟩ | ⟨gt,ct,cut,hv,_⟩
     ·simp only [Value.slice.injEq] at hv
      obtain ⟨rfl,pG,rfl⟩:=hv
      obtain rfl:=List.length_eq_zero_iff.1 pG
      go_wp2_with (at_builtin; go_must (refine wpList_append_own_none rfl _ _ 39 rfl w3.heap.size 41 j0 14 Tryz.underlying39 jd (.slice (some (J be 0)) 1 1) 1 _ rfl (U qg) rfl ?_))
      exact U HT2' _ _ (U qg) (U oB) (U kG) (U og) hlt6 h3Y
     ·simp only [Value.slice.injEq] at hv
      obtain ⟨rfl,-,rfl⟩:=hv
      have uZ:=Y (row_src (U jh))
      go_wp2_with (at_builtin; go_must (refine wpList_append_own _ rfl _ _ 39 rfl w3.heap.size 41 j0 _ 14 120 Tryz.underlying39 jd pO hy1 hy2 rfl (by decide) (.slice (some (J be 0)) 1 1) 1 _ rfl (U qg) (J gt 0) Ft.length ce (Ft.flatMap Ev.vs) rfl (by rw [zH Ev.len]) (U uZ) (one_allE Ft) (by unfold maxLen; omega) (by omega) h3Y ?_); intro v14 w7 hown7 hg7 _; have HO7:=Y hown7; have ox:=Y hg7; clear hown7 hg7)
      have HE7:Hid (ERow w7 w3.heap.size v14 (⟨1,⟨1,s,X,li,F,ii,pr,cutB O⟩,next,0,0,0,0⟩ :: Ft)):=by
       show w7.ownsRow _ _ _ _ (⟨1,⟨1,s,X,li,F,ii,pr,cutB O⟩,next,0,0,0,0⟩ :: Ft:List Ev).length _
       have h:=U HO7
       rw [List.length_cons,Nat.add_comm]
       simpa using h
      exact U HT2' _ _ (U HE7) (World.ownsRow.kept (U oB) (U ox) (zA (U oB) (U qg) (by decide))) (fun j u R=>(yQ (a:=(J tb (0 + j))) ((U ox).block tb hlt6 (zj (U qg) (U HTX) (by decide)))).trans (U kG j u R)) ((U og).grown (U ox) (U og).size (fun g hg=>yN hX3 ((U qg).lt g hg).1)) (yJ hlt6 (U ox).size) (yN h3Y (U ox).size)
   ·exact absurd (U uz).2 (by decide)
   ·exact absurd (U uz).2 (by decide)
   ·exact absurd (U uz).2 (by decide)
  ·have oa:=vf
   have qA:(rr == 0) = false:=by rw [xd]; exact vf
   have uI:Hid (sN = next∧sL = l∧sE = [⟨2,⟨kk,s,X,li,F,ii,pr,cutB O⟩,0,0,0,0,rr⟩]):=⟨by rw [U vl,if_neg (fun h=>vf h.1)],by rw [U uD,if_neg vf],by rw [U vk,if_neg vf]⟩
   skip
   exact absurd (U uz).1 oa
 rcases U vR with hs | ⟨ad,nn,cc,hs⟩
 ·simp only [Value.slice.injEq] at hs
  obtain ⟨rfl,pG,rfl⟩:=hs
  obtain rfl:=List.length_eq_zero_iff.1 pG
  obtain ⟨z0,z1,y0,y1,y2,y3,y4,y5,y6,y7⟩:=U xM ty (Below.refl _ _)
  have vG:=Y (World.ownsRow_made (base:=ty.heap.size) (e:=66) (size:=6) ty #[] 0 tg (by decide) rfl)
  have hzX:World.cell? (ty.alloc (E #[] 66)) (yq w 1) = some (.slice none 0 0):=(U xM _ (ed _ _)).2.1
  have kU:=Y HT
  clear HT hK
  go_wp2_with (at_builtin; go_must (refine wpList_append_own_none rfl _ _ 29 rfl ty.heap.size 66 i0 6 Tryz.underlying29 uE (.slice (some (yq ty 0)) 0 0) 0 [] rfl (U vG) rfl ?_))
  exact U kU _ _ _ (U vG) (ed _ _)
 ·simp only [Value.slice.injEq] at hs
  obtain ⟨rfl,rfl,rfl⟩:=hs
  obtain ⟨z0,z1,y0,y1,y2,y3,y4,y5,y6,y7⟩:=U xM ty (Below.refl _ _)
  have uN:Hid (yn ty (ty.alloc (E #[] 66))):=ed _ _
  have vG:=Y (World.ownsRow_made (base:=ty.heap.size) (e:=66) (size:=6) ty #[] 0 tg (by decide) rfl)
  have hzX:World.cell? (ty.alloc (E #[] 66)) (yq w 1) = some (.slice (some ad) l.length A):=(U xM _ (U uN)).2.1
  have uZ:Hid (∀ j u,(l.flatMap Od.vs)[j]? = some u→World.cell? (ty.alloc (E #[] 66)) (ad.add j) = some u):=rd_src (zl (U HR) ((U HB).2.2.2.2.2.trans ((U uN).mono (U HB).2.2.2.2.2.size)) tg)
  have kU:=Y HT
  clear HT hK
  go_wp2_with (at_builtin; go_must (refine wpList_append_own _ rfl _ _ 29 rfl ty.heap.size 66 i0 _ 6 56 Tryz.underlying29 uE uA uC uM rfl (by decide) (.slice (some (yq ty 0)) 0 0) 0 [] rfl (U vG) ad l.length A (l.flatMap Od.vs) rfl (by rw [zH Od.len]) (U uZ) (bd l) (by unfold maxLen; omega) (by omega) (U uN).size ?_); intro v1 w1 uY vV _; have vh:=Y uY; have jN:=Y vV; clear uY vV)
  have ah:Hid (ORow w1 ty.heap.size v1 l):=by
   show w1.ownsRow _ _ _ _ l.length _
   simpa using U vh
  obtain ⟨a6,c6,hv⟩:=zR (U ah)
  subst hv
  exact U kU _ _ _ (U ah) ((U uN).grown (U jN) (U uN).size (fun k hk=>((U vG).lt k hk).1))
end Go.Proofs.YtdliebbfcmdmaaaGreat
