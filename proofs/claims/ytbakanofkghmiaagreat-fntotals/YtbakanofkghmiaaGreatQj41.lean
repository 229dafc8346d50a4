/-
  A command done on a book, by the model: proved by walking the function.
-/
import Derived.Test.YtbakanofkghmiaaGreatQj40
set_option linter.unusedVariables false
set_option maxHeartbeats 6400000
set_option maxRecDepth 100000
namespace Go.Proofs.YtbakanofkghmiaaGreat
open Go.RowKit
theorem l04Step_c (next:Int) (vb:Value) (l:List Od) (c:Cm) (w:World) (qY:refR next l c = 0∧c.k = 2) (hr:RdR Od.vs 6 w vb l) (hs:SlOk vb) (hg:GoodL l) (uJ:∀ x ∈ l,x.side = 1 ∨ x.side = 2) (h0:0 ≤ next) (Q:next ≤ 1000000) (ht:c.g.size ≤ maxLen) :
  Calls Tryz.prog 44 #[.agg #[H next,vb],cmV c] w fun e w'=>∃ vq vg,e = ym (.tuple #[.agg #[H (stN next l c),vq],vg])∧ORow w' w.heap.size vq (stL next l c)∧ERow w' w.heap.size vg (stE next l c)∧yn w w':=by
 obtain ⟨i0,uG,uF,uI,uT⟩:=info_parts Tryz.infoOrder
 obtain ⟨j0,jg,pT,hy1,hy2⟩:=info_parts infoEv
 have HR:=Y hr
 have vP:=Y hs
 have HG:=Y hg
 have qn:=Y ht
 have vN:=hg.len
 have uH:Hid (0 ≤ next∧next ≤ 1000000):=⟨h0,Q⟩
 have uR:=Y (fun (W:World) hW=>dH next vb l c W hW hs hg uJ ht)
 rw [ref_eq] at uR
 have HK:=Y (@cY next l c)
 have HQ:=Y (@cC next l c)
 have qM:=Y (@ref_id next l c)
 have jC:=Y (@ref_newS next l c)
 have uD:=Y qY
 clear qY
 have vk:Hid (stN next l c = if refR next l c = 0∧c.k = 1 then next + 1 else next):=rfl
 have uE:=Y (stL.eq_1 next l c)
 have vj:=Y (stE.eq_1 next l c)
 have oD:=Y (fun W=>dG c W ht)
 have qN:=Y (fun (a:Option Addr) (n A:Nat) (W:World)=>dm next a n A c W)
 have kh:=Y (fun (v:Value) (W:World) hr hs hp jp jq=>dl v l c next W hr hg hs hp jp jq)
 obtain ⟨a,A,rfl,vE,hc⟩:=hr
 obtain ⟨kk,s,F,li,L,ii,pr,O⟩:=c
 generalize stN next l ⟨kk,s,F,li,L,ii,pr,O⟩ = sN at vk ⊢
 generalize stL next l ⟨kk,s,F,li,L,ii,pr,O⟩ = sL at uE ⊢
 generalize stE next l ⟨kk,s,F,li,L,ii,pr,O⟩ = sE at vj ⊢
 generalize refR next l ⟨kk,s,F,li,L,ii,pr,O⟩ = rr at uR vk uE vj HK HQ qM jC uD
 unfold cmV at uR qN ⊢
 simp only at uR vk uE vj HK HQ qM jC oD qN kh qn uD ⊢
 have HB:=Y (box3 w [H next,.slice a l.length A] (yx kk s F li L ii pr O) [H 0,.slice none 0 0] 28 43 28)
 clear hs hg uJ h0 Q ht hc vE
 go_enter Tryz.func44,Tryz.ntmps44
 refine eI fun hR xv=>?_
 go_wp2_with fail
 refine U xv _ _ ?_
 clear xv
 change Hid ((((w.alloc (E #[H next,.slice a l.length A] 28)).alloc (E (yx kk s F li L ii pr O).toArray 43)).alloc (E #[H 0,.slice none 0 0] 28)).heap.size = w.heap.size + 3∧World.rangeAt (((w.alloc (E #[H next,.slice a l.length A] 28)).alloc (E (yx kk s F li L ii pr O).toArray 43)).alloc (E #[H 0,.slice none 0 0] 28)) w.heap.size 0 [H next,.slice a l.length A]∧World.rangeAt (((w.alloc (E #[H next,.slice a l.length A] 28)).alloc (E (yx kk s F li L ii pr O).toArray 43)).alloc (E #[H 0,.slice none 0 0] 28)) (w.heap.size + 1) 0 (yx kk s F li L ii pr O)∧World.rangeAt (((w.alloc (E #[H next,.slice a l.length A] 28)).alloc (E (yx kk s F li L ii pr O).toArray 43)).alloc (E #[H 0,.slice none 0 0] 28)) (w.heap.size + 1 + 1) 0 [H 0,.slice none 0 0]∧World.there (((w.alloc (E #[H next,.slice a l.length A] 28)).alloc (E (yx kk s F li L ii pr O).toArray 43)).alloc (E #[H 0,.slice none 0 0] 28)) (w.heap.size + 1 + 1) 0 2∧yn w (((w.alloc (E #[H next,.slice a l.length A] 28)).alloc (E (yx kk s F li L ii pr O).toArray 43)).alloc (E #[H 0,.slice none 0 0] 28))) at HB
 generalize (((w.alloc (E #[H next,.slice a l.length A] 28)).alloc (E (yx kk s F li L ii pr O).toArray 43)).alloc (E #[H 0,.slice none 0 0] 28)) = hb at HB ⊢
 have xM:Hid (∀ W:World,yn hb W→W.cell? (yq w 0) = some (H next)∧W.cell? (yq w 1) = some (.slice a l.length A)∧W.cell? (J (w.heap.size + 1) 0) = some (H kk)∧W.cell? (J (w.heap.size + 1) 1) = some (H s)∧W.cell? (J (w.heap.size + 1) 2) = some (H F)∧W.cell? (J (w.heap.size + 1) 3) = some (H li)∧W.cell? (J (w.heap.size + 1) 4) = some (H L)∧W.cell? (J (w.heap.size + 1) 5) = some (H ii)∧W.cell? (J (w.heap.size + 1) 6) = some (yj pr)∧W.cell? (J (w.heap.size + 1) 7) = some (yk O)):=fun W hW =>
  have p:=zb (U HB).2.1 hW (by have:=(U HB).1; omega)
  have q:=zb (U HB).2.2.1 hW (by have:=(U HB).1; omega)
  ⟨p 0 _ rfl,p 1 _ rfl,q 0 _ rfl,q 1 _ rfl,q 2 _ rfl,q 3 _ rfl,q 4 _ rfl,q 5 _ rfl,q 6 _ rfl,q 7 _ rfl⟩
 have vS:w.heap.size + 1 + 1 < hb.heap.size:=by have:=(U HB).1; omega
 refine wp_seq_k fun hR hK=>?_
 have HT:∀ (a6:Option Addr) (c6:Nat) (w1:World),ORow w1 hb.heap.size (.slice a6 l.length c6) l→yn hb w1→hR { tmps:=#[.agg #[H next,.slice a l.length A],.agg (yx kk s F li L ii pr O).toArray,yp w 0,I (w.heap.size + 1) 0,I (w.heap.size + 1 + 1) 0,.slice none 0 0,.slice a6 l.length c6,M,M,M,M,M,M,M,M,M,M,M,.slice (some (yq hb 0)) 0 0,yp w 1,.slice a l.length A,.slice a6 l.length c6,M,M,M,M,M,M,M,M,M,M,M,M,M,M,M,M,M,M,M,M,M,M,M,M,M,M,M,M,M,M,M,M,M,M,M,M,M,M,M,M,M,M,M,M,M,M,M,M,M,M,M,M,M,M,M,M,M,M,M,M,M,M,M,M,M,M,M,M,M,M,M,M,M,M,M,M,M,M,M,M,M,M,M,M,M,M,M,M,M,M,M,M,M,M,M,M,M,M,M,M,M,M,M,M,M,M,M,M,M,M,M,M,M,M,M,M,M,M,M,M,M,M,M,M,M,M,M,M,M,M,M,M,M,M,M,M,M,M,M,M,M,M,M,M,M,M,M,M,M],defers:=[] } w1:=by
  intro a6 c6 w1 vZ xV
  refine hK _ _ ?_
  clear hK
  have vn:=Y vZ
  have xU:=Y xV
  clear vZ xV
  obtain ⟨z0,z1,y0,y1,y2,y3,y4,y5,y6,y7⟩:=U xM w1 (U xU)
  refine eI fun hR xv=>?_
  go_wp2_with fail
  refine (U uR w1 (zn (U HR) ((U HB).2.2.2.2.2.trans ((U xU).mono (U HB).2.2.2.2.2.size)) tg)).mono ?_
  rintro e w2 ⟨rfl,xX⟩
  have vU:=Y (zm (U vn) xX)
  have xE:=Y (eH (U xU) xX)
  clear z0 z1 y0 y1 y2 y3 y4 y5 y6 y7 xX vn
  obtain ⟨z0,z1,y0,y1,y2,y3,y4,y5,y6,y7⟩:=U xM w2 (U xE)
  have vV:=Y (zg (U HB).2.2.2.2.1 (U xE) vS)
  have oI:w.heap.size + 1 + 1 < w2.heap.size:=yK vS (U xE).size
  have xK:=Y ((U HB).2.2.2.2.2.trans ((U xE).mono (U HB).2.2.2.2.2.size))
  have hXw:w.heap.size ≤ hb.heap.size:=by omega
  have hX2:hb.heap.size ≤ w2.heap.size:=(U xE).size
  have oq:=hX2
  by_cases vi:rr = 0
  ·subst vi
   have pK:=U HK rfl
   rcases pK with rfl | rfl | rfl | rfl
   ·exact absurd (U uD).2 (by decide)
   ·obtain ⟨k,o,pO,jx⟩:=U qM rfl (by simp)
    have qV:(plc l ii).toNat = k:=by rw [pO]; rfl
    have xB:l ≠ []:=by rintro rfl; simp at jx
    have kN:=(yH.1 jx).1
    have uK:Hid (sN = next∧sE = [⟨6,zCm,ii,0,o.left,0,0⟩]):=⟨by rw [U vk,if_neg (fun h=>by have:=h.2; omega)],by rw [U vj,if_pos rfl,if_neg (by omega),if_pos rfl]; simp only [qV,jx]⟩
    have HLD:Hid (l.take k ++ l.drop (k + 1) = sL):=by show _ = _; rw [U uE,if_pos rfl,if_neg (by omega),if_pos rfl]; simp only [qV,jx]; rw [aM,if_pos rfl]
    have HPK:=Y pO
    have HLO:=Y jx
    clear pO jx qV vk uE vj HQ qM HK jC qN kh oD
    obtain ⟨g,cp,hv6,vW,hBg,hgw⟩:=dr (U vU) xB
    simp only [Value.slice.injEq] at hv6
    obtain ⟨rfl,-,rfl⟩:=hv6
    go_wp2_with fail
    refine U xv _ _ ?_
    clear xv
    go_wp2_with fail
    refine (dn _ l ii w2 (zN (U vU) (by omega))).mono ?_
    rw [U HPK]
    rintro e w3 ⟨rfl,um⟩
    have qA:=Y (zm (U vU) um)
    have xQ:=Y (eH (U xE) um)
    clear um z0 z1 y0 y1 y2 y3 y4 y5 y6 y7 vV xK oI oq
    have vV:=Y (zg (U HB).2.2.2.2.1 (U xQ) vS)
    have oI:w.heap.size + 1 + 1 < w3.heap.size:=yK vS (U xQ).size
    have xK:=Y ((U HB).2.2.2.2.2.trans ((U xQ).mono (U HB).2.2.2.2.2.size))
    have oq:hb.heap.size ≤ w3.heap.size:=(U xQ).size
    obtain ⟨z0,z1,y0,y1,y2,y3,y4,y5,y6,y7⟩:=U xM w3 (U xQ)
    have uX:=row_here (U qA) (by omega) (U HLO)
    have hkl':(k:Int) < l.length:=by omega
    have hk0:(0:Int) ≤ k:=by omega
    have hgR:g ≠ w.heap.size + 1 + 1:=by omega
    have hRS:w.heap.size + 1 + 1 < hb.heap.size:=vS
    have HZ0:=Y z0
    have HZ1:=Y z1
    have HY0:=Y y0
    have HY1:=Y y1
    have HY2:=Y y2
    have HY3:=Y y3
    have HY4:=Y y4
    have oo:=Y y5
    have HY6:=Y y6
    have HY7:=Y y7
    have hG3:w3.cell? (J g (k * 6 + 3)) = some (H o.left):=uX.1 3 _ rfl
    clear uX
    go_wp2_with fail
    clear z0 z1 y0 y1 y2 y3 y4 y5 y6 y7 hG3
    refine zj (RXA (fun f=>{ tmps:=#[.agg #[H next,.slice a l.length A],.agg (yx 2 s F li L ii pr O).toArray,yp w 0,I (w.heap.size + 1) 0,I (w.heap.size + 1 + 1) 0,f 12,.slice (some (J g 0)) l.length c6,H 0,H k,H o.left,M,M,M,M,M,M,M,M,.slice (some (yq hb 0)) 0 0,yp w 1,.slice a l.length A,.slice (some (J g 0)) l.length c6,.agg #[H next,.slice a l.length A],.agg (yx 2 s F li L ii pr O).toArray,H 0,H 0,.bool false,M,M,M,M,M,M,M,M,M,.slice (some (J g 0)) l.length c6,I (w.heap.size + 1) 5,H ii,H k,I (w.heap.size + 1) 0,H 2,.bool true,.bool true,.slice (some (J g 0)) l.length c6,H k,I g (k * 6),I g (k * 6 + 3),H o.left,f 0,f 1,f 2,f 3,f 4,f 5,f 6,f 7,f 8,f 9,f 10,M,M,M,M,M,M,M,M,M,M,M,M,M,M,M,M,M,M,M,M,M,M,M,M,M,M,M,M,M,M,M,M,M,M,M,M,M,M,M,M,M,M,M,M,M,M,M,M,M,M,M,M,M,M,M,M,M,M,M,M,M,M,M,M,M,M,M,M,M,M,M,M,M,M,M,M,M,M,M,M,M,M,M,M,M,M,M,M,M,M,M,M,M,M,M,M,M,M,M,M,M,M,M,M,M,M,M,M,M,M,M],defers:=[] }) (CX [yp w 0,H next,.slice (some (J g 0)) l.length c6,H k,M,M,I (w.heap.size + 1) 5,H ii,H o.left,.agg (yv 6 0 0 0 0 0 0 0 ⟨#[]⟩ ii 0 o.left 0 0).toArray,M,M,M] [(4,0),(5,1),(10,2),(11,9),(12,2)] (hb.heap.size) (next) (sL) ([⟨6,zCm,ii,0,o.left,0,0⟩])) (w.heap.size + 1 + 1) 2 11 (fun f=>aggL (f 5)) w3) (by kernel_rfl) ?_ ?_ ?_
    ·exact ⟨fun j=>if j = 12 then .slice none 0 0 else M,rfl,rx_start oI (U vV)⟩
    rotate_left
    ·rintro x xn V i op ⟨f,rfl,K⟩ xp hx Z xz D
     have xA:=Y K
     have xo:∀ (p:Addr) u,w3.cell? p = some u→p.block ≠ w.heap.size + 1 + 1→V.cell? p = some u:=fun p u hu hp=>kb_cell K.k hu hp
     match i,Z with
      | 0,Z =>
       obtain rfl:=ya Z
       clear D K xo xp
       rw [if_pos (by rfl)];unfold Oper.wp;go_simp
       exact ⟨upd f 0 (yp w 0),by simp [upd],aP (U xA) 0 _ (by decide) (fun _=>rfl) (zX rfl rfl)⟩
      | 1,Z =>
       obtain rfl:=ya Z
       have g0:f 0 = yp w 0:=zT (K.c 0 (ye D 0 rfl)) rfl rfl
       have z0:=xo (yq w 0) _ (U HZ0) (show w.heap.size ≠ w.heap.size + 1 + 1 by omega)
       clear D K xo xp
       rw [if_pos (by rfl)];unfold Oper.wp;go_simp
       exact ⟨upd f 1 (H next),by simp [upd,g0],aP (U xA) 1 _ (by decide) (fun _=>rfl) (zX rfl rfl)⟩
      | 2,Z =>
       obtain rfl:=ya Z
       clear D K xo xp
       rw [if_pos (by rfl)];unfold Oper.wp;go_simp
       exact ⟨upd f 2 (.slice (some (J g 0)) l.length c6),by simp [upd],aP (U xA) 2 _ (by decide) (fun _=>rfl) (zX rfl rfl)⟩
      | 3,Z =>
       obtain rfl:=ya Z
       clear D K xo xp
       rw [if_pos (by rfl)];unfold Oper.wp;go_simp
       exact ⟨upd f 3 (H k),by simp [upd],aP (U xA) 3 _ (by decide) (fun _=>rfl) (zX rfl rfl)⟩
      | 4,Z =>
       obtain rfl:=ya Z
       have g2:f 2 = .slice (some (J g 0)) l.length c6:=zT (K.c 2 (ye D 2 rfl)) rfl rfl
       have g3:f 3 = H k:=zT (K.c 3 (ye D 3 rfl)) rfl rfl
       have hOV:=kb_row (U qA) K.k hRS
       have kp:Hid (∀ j c,l[j]? = some c→V.rangeAt g (0 + j * 6) c.vs):=fun j c R=>by have:=(row_here hOV (by omega) R).1; rw [Nat.zero_add]; exact this
       have hgV:g < V.heap.size:=yK ((U qA).lt g rfl).2 K.k.size
       have hXV:=yO oq K.k.size
       clear D K xo xp hOV
       rw [if_pos (by rfl)];unfold Oper.wp;go_simp
       refine (l04Drop_any g 0 c6 l k V (U kp) hgV kN vW (by omega)).mono ?_
       rw [U HLD]
       rintro e w4 ⟨v',rfl,vB,xD⟩
       exact ⟨upd f 4 v',by simp [upd,g2,g3],aP (rx_grow (cS hRS) (U xA) xD) 4 _ (by decide) (fun _=>rfl) (bR (d:=0) rfl ⟨zI vB hXV,zU vB⟩)⟩
      | 5,Z =>
       obtain rfl:=ya Z
       have g1:f 1 = H next:=zT (K.c 1 (ye D 1 rfl)) rfl rfl
       have h4:=cx_sp (d:=0) (K.c 4 (ye D 4 rfl)) rfl
       obtain ⟨a4,c4,g4⟩:=h4.2
       rw [g4] at h4
       have H4:=Y h4
       have hcl0:=xp
       clear D K xo xp h4
       rw [if_pos (by rfl)];unfold Oper.wp;go_simp
       exact ⟨upd f 5 (.agg #[H next,.slice a4 sL.length c4]),by simp [upd,g1,g4],aP (U xA) 5 _ (by decide) (fun h=>by rw [zz hcl0 12 5 11 (by kernel_rfl) hx (by simp) xz] at h; cases h) (bR (d:=1) rfl ⟨_,rfl,⟨_,_,rfl⟩,(U H4).1⟩)⟩
      | 6,Z =>
       obtain rfl:=ya Z
       clear D K xo xp
       rw [if_pos (by rfl)];unfold Oper.wp;go_simp
       exact ⟨upd f 6 (I (w.heap.size + 1) 5),by simp [upd],aP (U xA) 6 _ (by decide) (fun _=>rfl) (zX rfl rfl)⟩
      | 7,Z =>
       obtain rfl:=ya Z
       have g6:f 6 = I (w.heap.size + 1) 5:=zT (K.c 6 (ye D 6 rfl)) rfl rfl
       have y5:=xo (J (w.heap.size + 1) 5) _ (U oo) (show w.heap.size + 1 ≠ w.heap.size + 1 + 1 by omega)
       clear D K xo xp
       rw [if_pos (by rfl)];unfold Oper.wp;go_simp
       exact ⟨upd f 7 (H ii),by simp [upd,g6],aP (U xA) 7 _ (by decide) (fun _=>rfl) (zX rfl rfl)⟩
      | 8,Z =>
       obtain rfl:=ya Z
       clear D K xo xp
       rw [if_pos (by rfl)];unfold Oper.wp;go_simp
       exact ⟨upd f 8 (H o.left),by simp [upd],aP (U xA) 8 _ (by decide) (fun _=>rfl) (zX rfl rfl)⟩
      | 9,Z =>
       obtain rfl:=ya Z
       have g7:f 7 = H ii:=zT (K.c 7 (ye D 7 rfl)) rfl rfl
       have g8:f 8 = H o.left:=zT (K.c 8 (ye D 8 rfl)) rfl rfl
       clear D K xo xp
       rw [if_pos (by rfl)];unfold Oper.wp;go_simp
       exact ⟨upd f 9 (.agg (yv 6 0 0 0 0 0 0 0 ⟨#[]⟩ ii 0 o.left 0 0).toArray),by simp [upd,g7,g8],aP (U xA) 9 _ (by decide) (fun _=>rfl) (zX rfl rfl)⟩
      | 10,Z =>
       obtain rfl:=ya Z
       have g9:f 9 = .agg (yv 6 0 0 0 0 0 0 0 ⟨#[]⟩ ii 0 o.left 0 0).toArray:=zT (K.c 9 (ye D 9 rfl)) rfl rfl
       have qX:=yO oq K.k.size
       clear D K xo xp
       rw [if_pos (by rfl)];unfold Oper.wp;go_simp
       exact ⟨upd f 10 (.slice (some (yq V 0)) 1 1),by simp [upd,g9],aP (rx_grow (cS hRS) (U xA) (eE _ _)) 10 _ (by decide) (fun _=>rfl) (bR (d:=2) rfl ⟨eRow_one V ⟨6,zCm,ii,0,o.left,0,0⟩ qX,_,_,rfl⟩)⟩
      | 11,Z =>
       obtain rfl:=ya Z
       obtain ⟨v4,g0,⟨a4,c4,rfl⟩,-⟩:=cx_sp (d:=1) (K.c 5 (ye D 5 rfl)) rfl
       obtain ⟨y0,z0,q0⟩:=ze K.t (j:=0) (by omega)
       obtain ⟨y1,z1,q1⟩:=ze K.t (j:=1) (by omega)
       clear D K xo xp
       rw [if_pos (by rfl)];unfold Oper.wp;go_simp
       have qr:=rx_store (cS hRS) (U xA) xz (by simp [g0,aggL]) (fun _ _=>bR (d:=9) rfl trivial)
       simp only [g0,aggL] at qr
       exact ⟨f,by simp [g0],qr⟩
      | 12,Z =>
       obtain rfl:=ya Z
       have h8:=cx_sp (d:=2) (K.c 10 (ye D 10 rfl)) rfl
       obtain ⟨a8,c8,g8⟩:=h8.2
       rw [g8] at h8
       have H8:=Y h8
       clear h8
       clear D K xo xp
       rw [if_pos (by rfl)];unfold Oper.wp;go_simp
       exact ⟨upd f 12 (f 10),by simp [upd,g8],aP (U xA) 12 _ (by decide) (fun _=>rfl) (bR (d:=2) rfl (by rw [g8]; exact U H8))⟩
      | n + 13,Z=>simp at Z
    ·rintro x xn V ⟨f,rfl,K⟩ hx xN
     have xq:=zR xN hx (by kernel_rfl)
     obtain ⟨hE8,a8,c8,e8⟩:=cx_sp (d:=2) (K.c 12 (xq 12 (by simp))) rfl
     have vO:=K.r (xq 11 (by simp))
     obtain ⟨v4,g5,-,aH⟩:=cx_sp (d:=1) (K.c 5 (xq 5 (by simp))) rfl
     simp only [g5,aggL] at vO
     clear g5
     have HO:Hid (ORow V w.heap.size v4 _∧ERow V w.heap.size (.slice a8 _ c8) _):=⟨zI aH (by omega),zI (e8 ▸ hE8) (by omega)⟩
     have xw:Hid (yn w V):=⟨K.k.os.trans (U xK).os,K.k.tape.trans (U xK).tape,K.k.output.trans (U xK).output,yO (U xK).size K.k.size,fun k hk=>(K.k.block k (yK hk (U xK).size) (by omega)).trans ((U xK).block k hk)⟩
     have d0:V.cell? (J (w.heap.size + 1 + 1) 0) = some (H next):=vO 0 _ rfl
     have d1:V.cell? (J (w.heap.size + 1 + 1) 1) = some v4:=vO 1 _ rfl
     simp only [e8]
     generalize f 0 = w0,f 1 = w1,f 2 = w2,f 3 = w3,f 4 = w4,f 5 = w5,f 6 = w6,f 7 = w7,f 8 = w8,f 9 = w9,f 10 = po
     clear K xq xN hx vO hE8 aH
     go_wp2_with fail
     try simp only [Exit.inBlock,Exit.then]
     refine bodyPost_ret (by simp [results,Tryz.results44,go_sem,d0,d1]; try rfl) rfl ?_
     obtain ⟨rfl,rfl⟩:=U uK
     exact ⟨_,_,rfl,(U HO).1,(U HO).2,U xw⟩
   ·exact absurd (U uD).2 (by decide)
   ·exact absurd (U uD).2 (by decide)
  ·have oa:=vi
   have qK:(rr == 0) = false:=by rw [xe]; exact vi
   have uK:Hid (sN = next∧sL = l∧sE = [⟨2,⟨kk,s,F,li,L,ii,pr,cutB O⟩,0,0,0,0,rr⟩]):=⟨by rw [U vk,if_neg (fun h=>vi h.1)],by rw [U uE,if_neg vi],by rw [U vj,if_neg vi]⟩
   skip
   exact absurd (U uD).1 oa
 rcases U vP with hs | ⟨ad,nn,cc,hs⟩
 ·simp only [Value.slice.injEq] at hs
  obtain ⟨rfl,pL,rfl⟩:=hs
  obtain rfl:=List.length_eq_zero_iff.1 pL
  obtain ⟨z0,z1,y0,y1,y2,y3,y4,y5,y6,y7⟩:=U xM hb (Below.refl _ _)
  have vI:=Y (World.ownsRow_made (base:=hb.heap.size) (e:=49) (size:=6) hb #[] 0 tg (by decide) rfl)
  have hzX:World.cell? (hb.alloc (E #[] 49)) (yq w 1) = some (.slice none 0 0):=(U xM _ (eE _ _)).2.1
  have kU:=Y HT
  clear HT hK
  go_wp2_with (at_builtin; go_must (refine wpList_append_own_none rfl _ _ 26 rfl hb.heap.size 49 i0 6 Tryz.underlying26 uG (.slice (some (yq hb 0)) 0 0) 0 [] rfl (U vI) rfl ?_))
  exact U kU _ _ _ (U vI) (eE _ _)
 ·simp only [Value.slice.injEq] at hs
  obtain ⟨rfl,rfl,rfl⟩:=hs
  obtain ⟨z0,z1,y0,y1,y2,y3,y4,y5,y6,y7⟩:=U xM hb (Below.refl _ _)
  have uQ:Hid (yn hb (hb.alloc (E #[] 49))):=eE _ _
  have vI:=Y (World.ownsRow_made (base:=hb.heap.size) (e:=49) (size:=6) hb #[] 0 tg (by decide) rfl)
  have hzX:World.cell? (hb.alloc (E #[] 49)) (yq w 1) = some (.slice (some ad) l.length A):=(U xM _ (U uQ)).2.1
  have vh:Hid (∀ j u,(l.flatMap Od.vs)[j]? = some u→World.cell? (hb.alloc (E #[] 49)) (ad.add j) = some u):=rd_src (zn (U HR) ((U HB).2.2.2.2.2.trans ((U uQ).mono (U HB).2.2.2.2.2.size)) tg)
  have kU:=Y HT
  clear HT hK
  go_wp2_with (at_builtin; go_must (refine wpList_append_own _ rfl _ _ 26 rfl hb.heap.size 49 i0 _ 6 56 Tryz.underlying26 uG uF uI uT rfl (by decide) (.slice (some (yq hb 0)) 0 0) 0 [] rfl (U vI) ad l.length A (l.flatMap Od.vs) rfl (by rw [zK Od.len]) (U vh) (bB l) (by unfold maxLen; omega) (by omega) (U uQ).size ?_); intro v1 w1 vf vT _; have vn:=Y vf; have kB:=Y vT; clear vf vT)
  have ay:Hid (ORow w1 hb.heap.size v1 l):=by
   show w1.ownsRow _ _ _ _ l.length _
   simpa using U vn
  obtain ⟨a6,c6,hv⟩:=zU (U ay)
  subst hv
  exact U kU _ _ _ (U ay) ((U uQ).grown (U kB) (U uQ).size (fun k hk=>((U vI).lt k hk).1))
end Go.Proofs.YtbakanofkghmiaaGreat
