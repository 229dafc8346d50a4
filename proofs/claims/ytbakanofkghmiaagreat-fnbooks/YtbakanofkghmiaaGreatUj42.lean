/-
  A command done on a book, by the model: proved by walking the function.
-/
import Derived.Test.YtbakanofkghmiaaGreatUj41
set_option linter.unusedVariables false
set_option maxHeartbeats 6400000
set_option maxRecDepth 100000
namespace Go.Proofs.YtbakanofkghmiaaGreat
open Go.RowKit
theorem l04Step_c (next:Int) (vb:Value) (l:List Od) (c:Cm) (w:World) (qX:refR next l c = 0∧c.k = 2) (hr:RdR Od.vs 6 w vb l) (hs:SlOk vb) (hg:GoodL l) (uC:∀ x ∈ l,x.side = 1 ∨ x.side = 2) (h0:0 ≤ next) (G:next ≤ 1000000) (ht:c.g.size ≤ maxLen) :
  Calls Tryz.prog 44 #[.agg #[H next,vb],cmV c] w fun e w'=>∃ vq vg,e = yl (.tuple #[.agg #[H (stN next l c),vq],vg])∧ORow w' w.heap.size vq (stL next l c)∧ERow w' w.heap.size vg (stE next l c)∧ym w w':=by
 obtain ⟨i0,uE,uF,uK,uV⟩:=info_parts Tryz.infoOrder
 obtain ⟨j0,jz,jI,kX,hy2⟩:=info_parts infoEv
 have HR:=Y hr
 have vC:=Y hs
 have HG:=Y hg
 have qw:=Y ht
 have vR:=hg.len
 have uG:Hid (0 ≤ next∧next ≤ 1000000):=⟨h0,G⟩
 have uQ:=Y (fun (W:World) hW=>dw next vb l c W hW hs hg uC ht)
 rw [ref_eq] at uQ
 have HK:=Y (@cY next l c)
 have HQ:=Y (@cJ next l c)
 have qJ:=Y (@ref_id next l c)
 have jD:=Y (@ref_newS next l c)
 have uA:=Y qX
 clear qX
 have uX:Hid (stN next l c = if refR next l c = 0∧c.k = 1 then next + 1 else next):=rfl
 have uD:=Y (stL.eq_1 next l c)
 have uW:=Y (stE.eq_1 next l c)
 have ou:=Y (fun W=>dv c W ht)
 have qO:=Y (fun (a:Option Addr) (n A:Nat) (W:World)=>di next a n A c W)
 have kb:=Y (fun (v:Value) (W:World) hr hs hp jq qU=>dh v l c next W hr hg hs hp jq qU)
 obtain ⟨a,A,rfl,vF,hc⟩:=hr
 obtain ⟨kk,s,ty,li,F,ii,pr,L⟩:=c
 generalize stN next l ⟨kk,s,ty,li,F,ii,pr,L⟩ = sN at uX ⊢
 generalize stL next l ⟨kk,s,ty,li,F,ii,pr,L⟩ = sL at uD ⊢
 generalize stE next l ⟨kk,s,ty,li,F,ii,pr,L⟩ = sE at uW ⊢
 generalize refR next l ⟨kk,s,ty,li,F,ii,pr,L⟩ = rr at uQ uX uD uW HK HQ qJ jD uA
 unfold cmV at uQ qO ⊢
 simp only at uQ uX uD uW HK HQ qJ jD ou qO kb qw uA ⊢
 have HB:=Y (box3 w [H next,.slice a l.length A] (yv kk s ty li F ii pr L) [H 0,.slice none 0 0] 28 43 28)
 clear hs hg uC h0 G ht hc vF
 go_enter Tryz.func44,Tryz.ntmps44
 refine eF fun hj xq=>?_
 go_wp2_with fail
 refine U xq _ _ ?_
 clear xq
 change Hid ((((w.alloc (N #[H next,.slice a l.length A] 28)).alloc (N (yv kk s ty li F ii pr L).toArray 43)).alloc (N #[H 0,.slice none 0 0] 28)).heap.size = w.heap.size + 3∧World.rangeAt (((w.alloc (N #[H next,.slice a l.length A] 28)).alloc (N (yv kk s ty li F ii pr L).toArray 43)).alloc (N #[H 0,.slice none 0 0] 28)) w.heap.size 0 [H next,.slice a l.length A]∧World.rangeAt (((w.alloc (N #[H next,.slice a l.length A] 28)).alloc (N (yv kk s ty li F ii pr L).toArray 43)).alloc (N #[H 0,.slice none 0 0] 28)) (w.heap.size + 1) 0 (yv kk s ty li F ii pr L)∧World.rangeAt (((w.alloc (N #[H next,.slice a l.length A] 28)).alloc (N (yv kk s ty li F ii pr L).toArray 43)).alloc (N #[H 0,.slice none 0 0] 28)) (w.heap.size + 1 + 1) 0 [H 0,.slice none 0 0]∧World.there (((w.alloc (N #[H next,.slice a l.length A] 28)).alloc (N (yv kk s ty li F ii pr L).toArray 43)).alloc (N #[H 0,.slice none 0 0] 28)) (w.heap.size + 1 + 1) 0 2∧ym w (((w.alloc (N #[H next,.slice a l.length A] 28)).alloc (N (yv kk s ty li F ii pr L).toArray 43)).alloc (N #[H 0,.slice none 0 0] 28))) at HB
 generalize (((w.alloc (N #[H next,.slice a l.length A] 28)).alloc (N (yv kk s ty li F ii pr L).toArray 43)).alloc (N #[H 0,.slice none 0 0] 28)) = xm at HB ⊢
 have xG:Hid (∀ W:World,ym xm W→W.cell? (yp w 0) = some (H next)∧W.cell? (yp w 1) = some (.slice a l.length A)∧W.cell? (J (w.heap.size + 1) 0) = some (H kk)∧W.cell? (J (w.heap.size + 1) 1) = some (H s)∧W.cell? (J (w.heap.size + 1) 2) = some (H ty)∧W.cell? (J (w.heap.size + 1) 3) = some (H li)∧W.cell? (J (w.heap.size + 1) 4) = some (H F)∧W.cell? (J (w.heap.size + 1) 5) = some (H ii)∧W.cell? (J (w.heap.size + 1) 6) = some (yi pr)∧W.cell? (J (w.heap.size + 1) 7) = some (yj L)):=fun W hW =>
  have p:=zb (U HB).2.1 hW (by have:=(U HB).1; omega)
  have q:=zb (U HB).2.2.1 hW (by have:=(U HB).1; omega)
  ⟨p 0 _ rfl,p 1 _ rfl,q 0 _ rfl,q 1 _ rfl,q 2 _ rfl,q 3 _ rfl,q 4 _ rfl,q 5 _ rfl,q 6 _ rfl,q 7 _ rfl⟩
 have vz:w.heap.size + 1 + 1 < xm.heap.size:=by have:=(U HB).1; omega
 refine wp_seq_k fun hj hK=>?_
 have HT:∀ (a6:Option Addr) (c6:Nat) (w1:World),ORow w1 xm.heap.size (.slice a6 l.length c6) l→ym xm w1→hj { tmps:=#[.agg #[H next,.slice a l.length A],.agg (yv kk s ty li F ii pr L).toArray,yn w 0,I (w.heap.size + 1) 0,I (w.heap.size + 1 + 1) 0,.slice none 0 0,.slice a6 l.length c6,M,M,M,M,M,M,M,M,M,M,M,.slice (some (yp xm 0)) 0 0,yn w 1,.slice a l.length A,.slice a6 l.length c6,M,M,M,M,M,M,M,M,M,M,M,M,M,M,M,M,M,M,M,M,M,M,M,M,M,M,M,M,M,M,M,M,M,M,M,M,M,M,M,M,M,M,M,M,M,M,M,M,M,M,M,M,M,M,M,M,M,M,M,M,M,M,M,M,M,M,M,M,M,M,M,M,M,M,M,M,M,M,M,M,M,M,M,M,M,M,M,M,M,M,M,M,M,M,M,M,M,M,M,M,M,M,M,M,M,M,M,M,M,M,M,M,M,M,M,M,M,M,M,M,M,M,M,M,M,M,M,M,M,M,M,M,M,M,M,M,M,M,M,M,M,M,M,M,M,M,M,M,M],defers:=[] } w1:=by
  intro a6 c6 w1 vZ xU
  refine hK _ _ ?_
  clear hK
  have vl:=Y vZ
  have xW:=Y xU
  clear vZ xU
  obtain ⟨z0,z1,y0,y1,y2,y3,y4,y5,y6,y7⟩:=U xG w1 (U xW)
  refine eF fun hj xq=>?_
  go_wp2_with fail
  refine (U uQ w1 (zh (U HR) ((U HB).2.2.2.2.2.trans ((U xW).mono (U HB).2.2.2.2.2.size)) hb)).mono ?_
  rintro e w2 ⟨rfl,xS⟩
  have vV:=Y (zj (U vl) xS)
  have xD:=Y (eE (U xW) xS)
  clear z0 z1 y0 y1 y2 y3 y4 y5 y6 y7 xS vl
  obtain ⟨z0,z1,y0,y1,y2,y3,y4,y5,y6,y7⟩:=U xG w2 (U xD)
  have vN:=Y (ze (U HB).2.2.2.2.1 (U xD) vz)
  have ox:w.heap.size + 1 + 1 < w2.heap.size:=yH vz (U xD).size
  have xJ:=Y ((U HB).2.2.2.2.2.trans ((U xD).mono (U HB).2.2.2.2.2.size))
  have hXw:w.heap.size ≤ xm.heap.size:=by omega
  have hX2:xm.heap.size ≤ w2.heap.size:=(U xD).size
  have oi:=hX2
  by_cases vi:rr = 0
  ·subst vi
   have pD:=U HK rfl
   rcases pD with rfl | rfl | rfl | rfl
   ·exact absurd (U uA).2 (by decide)
   ·obtain ⟨k,o,oJ,jn⟩:=U qJ rfl (by simp)
    have qT:(plc l ii).toNat = k:=by rw [oJ]; rfl
    have xA:l ≠ []:=by rintro rfl; simp at jn
    have kg:=(yE.1 jn).1
    have uI:Hid (sN = next∧sE = [⟨6,zCm,ii,0,o.left,0,0⟩]):=⟨by rw [U uX,if_neg (fun h=>by have:=h.2; omega)],by rw [U uW,if_pos rfl,if_neg (by omega),if_pos rfl]; simp only [qT,jn]⟩
    have HLD:Hid (l.take k ++ l.drop (k + 1) = sL):=by show _ = _; rw [U uD,if_pos rfl,if_neg (by omega),if_pos rfl]; simp only [qT,jn]; rw [aB,if_pos rfl]
    have HPK:=Y oJ
    have HLO:=Y jn
    clear oJ jn qT uX uD uW HQ qJ HK jD qO kb ou
    obtain ⟨g,cp,hv6,vW,hBg,hgw⟩:=dn (U vV) xA
    simp only [Value.slice.injEq] at hv6
    obtain ⟨rfl,-,rfl⟩:=hv6
    go_wp2_with fail
    refine U xq _ _ ?_
    clear xq
    go_wp2_with fail
    refine (dj _ l ii w2 (zR (U vV) (by omega))).mono ?_
    rw [U HPK]
    rintro e w3 ⟨rfl,uw⟩
    have qL:=Y (zj (U vV) uw)
    have xP:=Y (eE (U xD) uw)
    clear uw z0 z1 y0 y1 y2 y3 y4 y5 y6 y7 vN xJ ox oi
    have vN:=Y (ze (U HB).2.2.2.2.1 (U xP) vz)
    have ox:w.heap.size + 1 + 1 < w3.heap.size:=yH vz (U xP).size
    have xJ:=Y ((U HB).2.2.2.2.2.trans ((U xP).mono (U HB).2.2.2.2.2.size))
    have oi:xm.heap.size ≤ w3.heap.size:=(U xP).size
    obtain ⟨z0,z1,y0,y1,y2,y3,y4,y5,y6,y7⟩:=U xG w3 (U xP)
    have uU:=row_here (U qL) (by omega) (U HLO)
    have hkl':(k:Int) < l.length:=by omega
    have hk0:(0:Int) ≤ k:=by omega
    have hgR:g ≠ w.heap.size + 1 + 1:=by omega
    have hRS:w.heap.size + 1 + 1 < xm.heap.size:=vz
    have HZ0:=Y z0
    have HZ1:=Y z1
    have HY0:=Y y0
    have HY1:=Y y1
    have HY2:=Y y2
    have HY3:=Y y3
    have HY4:=Y y4
    have HY5:=Y y5
    have HY6:=Y y6
    have pp:=Y y7
    have hG3:w3.cell? (J g (k * 6 + 3)) = some (H o.left):=uU.1 3 _ rfl
    clear uU
    go_wp2_with fail
    clear z0 z1 y0 y1 y2 y3 y4 y5 y6 y7 hG3
    refine zi (RXA (fun f=>{ tmps:=#[.agg #[H next,.slice a l.length A],.agg (yv 2 s ty li F ii pr L).toArray,yn w 0,I (w.heap.size + 1) 0,I (w.heap.size + 1 + 1) 0,f 12,.slice (some (J g 0)) l.length c6,H 0,H k,H o.left,M,M,M,M,M,M,M,M,.slice (some (yp xm 0)) 0 0,yn w 1,.slice a l.length A,.slice (some (J g 0)) l.length c6,.agg #[H next,.slice a l.length A],.agg (yv 2 s ty li F ii pr L).toArray,H 0,H 0,.bool false,M,M,M,M,M,M,M,M,M,.slice (some (J g 0)) l.length c6,I (w.heap.size + 1) 5,H ii,H k,I (w.heap.size + 1) 0,H 2,.bool true,.bool true,.slice (some (J g 0)) l.length c6,H k,I g (k * 6),I g (k * 6 + 3),H o.left,f 0,f 1,f 2,f 3,f 4,f 5,f 6,f 7,f 8,f 9,f 10,M,M,M,M,M,M,M,M,M,M,M,M,M,M,M,M,M,M,M,M,M,M,M,M,M,M,M,M,M,M,M,M,M,M,M,M,M,M,M,M,M,M,M,M,M,M,M,M,M,M,M,M,M,M,M,M,M,M,M,M,M,M,M,M,M,M,M,M,M,M,M,M,M,M,M,M,M,M,M,M,M,M,M,M,M,M,M,M,M,M,M,M,M,M,M,M,M,M,M,M,M,M,M,M,M,M,M,M,M,M,M],defers:=[] }) (CX [yn w 0,H next,.slice (some (J g 0)) l.length c6,H k,M,M,I (w.heap.size + 1) 5,H ii,H o.left,.agg (yt 6 0 0 0 0 0 0 0 ⟨#[]⟩ ii 0 o.left 0 0).toArray,M,M,M] [(4,0),(5,1),(10,2),(11,9),(12,2)] (xm.heap.size) (next) (sL) ([⟨6,zCm,ii,0,o.left,0,0⟩])) (w.heap.size + 1 + 1) 2 11 (fun f=>aggL (f 5)) w3) (by kernel_rfl) ?_ ?_ ?_
    ·exact ⟨fun j=>if j = 12 then .slice none 0 0 else M,rfl,rx_start ox (U vN)⟩
    rotate_left
    ·rintro x xj V i op ⟨f,rfl,E⟩ X hx Z xu Q
     have xw:=Y E
     have xk:∀ (p:Addr) u,w3.cell? p = some u→p.block ≠ w.heap.size + 1 + 1→V.cell? p = some u:=fun p u hu hp=>kb_cell E.k hu hp
     match i,Z with
      | 0,Z =>
       obtain rfl:=ya Z
       clear Q E xk X
       rw [if_pos (by rfl)];unfold Oper.wp;go_simp
       exact ⟨upd f 0 (yn w 0),by simp [upd],zX (U xw) 0 _ (by decide) (fun _=>rfl) (zY rfl rfl)⟩
      | 1,Z =>
       obtain rfl:=ya Z
       have g0:f 0 = yn w 0:=zU (E.c 0 (yd Q 0 rfl)) rfl rfl
       have z0:=xk (yp w 0) _ (U HZ0) (show w.heap.size ≠ w.heap.size + 1 + 1 by omega)
       clear Q E xk X
       rw [if_pos (by rfl)];unfold Oper.wp;go_simp
       exact ⟨upd f 1 (H next),by simp [upd,g0],zX (U xw) 1 _ (by decide) (fun _=>rfl) (zY rfl rfl)⟩
      | 2,Z =>
       obtain rfl:=ya Z
       clear Q E xk X
       rw [if_pos (by rfl)];unfold Oper.wp;go_simp
       exact ⟨upd f 2 (.slice (some (J g 0)) l.length c6),by simp [upd],zX (U xw) 2 _ (by decide) (fun _=>rfl) (zY rfl rfl)⟩
      | 3,Z =>
       obtain rfl:=ya Z
       clear Q E xk X
       rw [if_pos (by rfl)];unfold Oper.wp;go_simp
       exact ⟨upd f 3 (H k),by simp [upd],zX (U xw) 3 _ (by decide) (fun _=>rfl) (zY rfl rfl)⟩
      | 4,Z =>
       obtain rfl:=ya Z
       have g2:f 2 = .slice (some (J g 0)) l.length c6:=zU (E.c 2 (yd Q 2 rfl)) rfl rfl
       have g3:f 3 = H k:=zU (E.c 3 (yd Q 3 rfl)) rfl rfl
       have hOV:=bX (U qL) E.k hRS
       have kh:Hid (∀ j c,l[j]? = some c→V.rangeAt g (0 + j * 6) c.vs):=fun j c K=>by have:=(row_here hOV (by omega) K).1; rw [Nat.zero_add]; exact this
       have hgV:g < V.heap.size:=yH ((U qL).lt g rfl).2 E.k.size
       have hXV:=yL oi E.k.size
       clear Q E xk X hOV
       rw [if_pos (by rfl)];unfold Oper.wp;go_simp
       refine (l04Drop_any g 0 c6 l k V (U kh) hgV kg vW (by omega)).mono ?_
       rw [U HLD]
       rintro e w4 ⟨v',rfl,vv,xy⟩
       exact ⟨upd f 4 v',by simp [upd,g2,g3],zX (rx_grow (cO hRS) (U xw) xy) 4 _ (by decide) (fun _=>rfl) (bI (d:=0) rfl ⟨zE vv hXV,zL vv⟩)⟩
      | 5,Z =>
       obtain rfl:=ya Z
       have g1:f 1 = H next:=zU (E.c 1 (yd Q 1 rfl)) rfl rfl
       have h4:=cx_sp (d:=0) (E.c 4 (yd Q 4 rfl)) rfl
       obtain ⟨a4,c4,g4⟩:=h4.2
       rw [g4] at h4
       have H4:=Y h4
       have hcl0:=X
       clear Q E xk X h4
       rw [if_pos (by rfl)];unfold Oper.wp;go_simp
       exact ⟨upd f 5 (.agg #[H next,.slice a4 sL.length c4]),by simp [upd,g1,g4],zX (U xw) 5 _ (by decide) (fun h=>by rw [zy hcl0 12 5 11 (by kernel_rfl) hx (by simp) xu] at h; cases h) (bI (d:=1) rfl ⟨_,rfl,⟨_,_,rfl⟩,(U H4).1⟩)⟩
      | 6,Z =>
       obtain rfl:=ya Z
       clear Q E xk X
       rw [if_pos (by rfl)];unfold Oper.wp;go_simp
       exact ⟨upd f 6 (I (w.heap.size + 1) 5),by simp [upd],zX (U xw) 6 _ (by decide) (fun _=>rfl) (zY rfl rfl)⟩
      | 7,Z =>
       obtain rfl:=ya Z
       have g6:f 6 = I (w.heap.size + 1) 5:=zU (E.c 6 (yd Q 6 rfl)) rfl rfl
       have y5:=xk (J (w.heap.size + 1) 5) _ (U HY5) (show w.heap.size + 1 ≠ w.heap.size + 1 + 1 by omega)
       clear Q E xk X
       rw [if_pos (by rfl)];unfold Oper.wp;go_simp
       exact ⟨upd f 7 (H ii),by simp [upd,g6],zX (U xw) 7 _ (by decide) (fun _=>rfl) (zY rfl rfl)⟩
      | 8,Z =>
       obtain rfl:=ya Z
       clear Q E xk X
       rw [if_pos (by rfl)];unfold Oper.wp;go_simp
       exact ⟨upd f 8 (H o.left),by simp [upd],zX (U xw) 8 _ (by decide) (fun _=>rfl) (zY rfl rfl)⟩
      | 9,Z =>
       obtain rfl:=ya Z
       have g7:f 7 = H ii:=zU (E.c 7 (yd Q 7 rfl)) rfl rfl
       have g8:f 8 = H o.left:=zU (E.c 8 (yd Q 8 rfl)) rfl rfl
       clear Q E xk X
       rw [if_pos (by rfl)];unfold Oper.wp;go_simp
       exact ⟨upd f 9 (.agg (yt 6 0 0 0 0 0 0 0 ⟨#[]⟩ ii 0 o.left 0 0).toArray),by simp [upd,g7,g8],zX (U xw) 9 _ (by decide) (fun _=>rfl) (zY rfl rfl)⟩
      | 10,Z =>
       obtain rfl:=ya Z
       have g9:f 9 = .agg (yt 6 0 0 0 0 0 0 0 ⟨#[]⟩ ii 0 o.left 0 0).toArray:=zU (E.c 9 (yd Q 9 rfl)) rfl rfl
       have qW:=yL oi E.k.size
       clear Q E xk X
       rw [if_pos (by rfl)];unfold Oper.wp;go_simp
       exact ⟨upd f 10 (.slice (some (yp V 0)) 1 1),by simp [upd,g9],zX (rx_grow (cO hRS) (U xw) (eB _ _)) 10 _ (by decide) (fun _=>rfl) (bI (d:=2) rfl ⟨eRow_one V ⟨6,zCm,ii,0,o.left,0,0⟩ qW,_,_,rfl⟩)⟩
      | 11,Z =>
       obtain rfl:=ya Z
       obtain ⟨v4,g0,⟨a4,c4,rfl⟩,-⟩:=cx_sp (d:=1) (E.c 5 (yd Q 5 rfl)) rfl
       obtain ⟨y0,z0,q0⟩:=zc E.t (j:=0) (by omega)
       obtain ⟨y1,z1,q1⟩:=zc E.t (j:=1) (by omega)
       clear Q E xk X
       rw [if_pos (by rfl)];unfold Oper.wp;go_simp
       have uO:=rx_store (cO hRS) (U xw) xu (by simp [g0,aggL]) (fun _ _=>bI (d:=9) rfl trivial)
       simp only [g0,aggL] at uO
       exact ⟨f,by simp [g0],uO⟩
      | 12,Z =>
       obtain rfl:=ya Z
       have h8:=cx_sp (d:=2) (E.c 10 (yd Q 10 rfl)) rfl
       obtain ⟨a8,c8,g8⟩:=h8.2
       rw [g8] at h8
       have H8:=Y h8
       clear h8
       clear Q E xk X
       rw [if_pos (by rfl)];unfold Oper.wp;go_simp
       exact ⟨upd f 12 (f 10),by simp [upd,g8],zX (U xw) 12 _ (by decide) (fun _=>rfl) (bI (d:=2) rfl (by rw [g8]; exact U H8))⟩
      | n + 13,Z=>simp at Z
    ·rintro x xj V ⟨f,rfl,E⟩ hx xL
     have xn:=zO xL hx (by kernel_rfl)
     obtain ⟨hE8,a8,c8,e8⟩:=cx_sp (d:=2) (E.c 12 (xn 12 (by simp))) rfl
     have vk:=E.r (xn 11 (by simp))
     obtain ⟨v4,g5,-,kr⟩:=cx_sp (d:=1) (E.c 5 (xn 5 (by simp))) rfl
     simp only [g5,aggL] at vk
     clear g5
     have HO:Hid (ORow V w.heap.size v4 _∧ERow V w.heap.size (.slice a8 _ c8) _):=⟨zE kr (by omega),zE (e8 ▸ hE8) (by omega)⟩
     have xr:Hid (ym w V):=⟨E.k.os.trans (U xJ).os,E.k.tape.trans (U xJ).tape,E.k.output.trans (U xJ).output,yL (U xJ).size E.k.size,fun k hk=>(E.k.block k (yH hk (U xJ).size) (by omega)).trans ((U xJ).block k hk)⟩
     have d0:V.cell? (J (w.heap.size + 1 + 1) 0) = some (H next):=vk 0 _ rfl
     have d1:V.cell? (J (w.heap.size + 1 + 1) 1) = some v4:=vk 1 _ rfl
     simp only [e8]
     generalize f 0 = w0,f 1 = w1,f 2 = w2,f 3 = w3,f 4 = w4,f 5 = w5,f 6 = w6,f 7 = w7,f 8 = w8,f 9 = w9,f 10 = oZ
     clear E xn xL hx vk hE8 kr
     go_wp2_with fail
     try simp only [Exit.inBlock,Exit.then]
     refine bodyPost_ret (by simp [results,Tryz.results44,go_sem,d0,d1]; try rfl) rfl ?_
     obtain ⟨rfl,rfl⟩:=U uI
     exact ⟨_,_,rfl,(U HO).1,(U HO).2,U xr⟩
   ·exact absurd (U uA).2 (by decide)
   ·exact absurd (U uA).2 (by decide)
  ·have kU:=vi
   have qI:(rr == 0) = false:=by rw [xb]; exact vi
   have uI:Hid (sN = next∧sL = l∧sE = [⟨2,⟨kk,s,ty,li,F,ii,pr,cutB L⟩,0,0,0,0,rr⟩]):=⟨by rw [U uX,if_neg (fun h=>vi h.1)],by rw [U uD,if_neg vi],by rw [U uW,if_neg vi]⟩
   skip
   exact absurd (U uA).1 kU
 rcases U vC with hs | ⟨ad,nn,cc,hs⟩
 ·simp only [Value.slice.injEq] at hs
  obtain ⟨rfl,pE,rfl⟩:=hs
  obtain rfl:=List.length_eq_zero_iff.1 pE
  obtain ⟨z0,z1,y0,y1,y2,y3,y4,y5,y6,y7⟩:=U xG xm (Below.refl _ _)
  have vL:=Y (World.ownsRow_made (base:=xm.heap.size) (e:=49) (size:=6) xm #[] 0 hb (by decide) rfl)
  have hzX:World.cell? (xm.alloc (N #[] 49)) (yp w 1) = some (.slice none 0 0):=(U xG _ (eB _ _)).2.1
  have kN:=Y HT
  clear HT hK
  go_wp2_with (at_builtin; go_must (refine wpList_append_own_none rfl _ _ 26 rfl xm.heap.size 49 i0 6 Tryz.underlying26 uE (.slice (some (yp xm 0)) 0 0) 0 [] rfl (U vL) rfl ?_))
  exact U kN _ _ _ (U vL) (eB _ _)
 ·simp only [Value.slice.injEq] at hs
  obtain ⟨rfl,rfl,rfl⟩:=hs
  obtain ⟨z0,z1,y0,y1,y2,y3,y4,y5,y6,y7⟩:=U xG xm (Below.refl _ _)
  have uP:Hid (ym xm (xm.alloc (N #[] 49))):=eB _ _
  have vL:=Y (World.ownsRow_made (base:=xm.heap.size) (e:=49) (size:=6) xm #[] 0 hb (by decide) rfl)
  have hzX:World.cell? (xm.alloc (N #[] 49)) (yp w 1) = some (.slice (some ad) l.length A):=(U xG _ (U uP)).2.1
  have vf:Hid (∀ j u,(l.flatMap Od.vs)[j]? = some u→World.cell? (xm.alloc (N #[] 49)) (ad.add j) = some u):=rd_src (zh (U HR) ((U HB).2.2.2.2.2.trans ((U uP).mono (U HB).2.2.2.2.2.size)) hb)
  have kN:=Y HT
  clear HT hK
  go_wp2_with (at_builtin; go_must (refine wpList_append_own _ rfl _ _ 26 rfl xm.heap.size 49 i0 _ 6 56 Tryz.underlying26 uE uF uK uV rfl (by decide) (.slice (some (yp xm 0)) 0 0) 0 [] rfl (U vL) ad l.length A (l.flatMap Od.vs) rfl (by rw [zK Od.len]) (U vf) (bi l) (by unfold maxLen; omega) (by omega) (U uP).size ?_); intro v1 w1 vd qk _; have vl:=Y vd; have kw:=Y qk; clear vd qk)
  have pX:Hid (ORow w1 xm.heap.size v1 l):=by
   show w1.ownsRow _ _ _ _ l.length _
   simpa using U vl
  obtain ⟨a6,c6,hv⟩:=zL (U pX)
  subst hv
  exact U kN _ _ _ (U pX) ((U uP).grown (U kw) (U uP).size (fun k hk=>((U vL).lt k hk).1))
theorem l04Step_d (next:Int) (vb:Value) (l:List Od) (c:Cm) (w:World) (qX:refR next l c = 0∧c.k = 3) (hr:RdR Od.vs 6 w vb l) (hs:SlOk vb) (hg:GoodL l) (uC:∀ x ∈ l,x.side = 1 ∨ x.side = 2) (h0:0 ≤ next) (G:next ≤ 1000000) (ht:c.g.size ≤ maxLen) :
  Calls Tryz.prog 44 #[.agg #[H next,vb],cmV c] w fun e w'=>∃ vq vg,e = yl (.tuple #[.agg #[H (stN next l c),vq],vg])∧ORow w' w.heap.size vq (stL next l c)∧ERow w' w.heap.size vg (stE next l c)∧ym w w':=by
 obtain ⟨i0,uE,uF,uK,uV⟩:=info_parts Tryz.infoOrder
 obtain ⟨j0,jz,jI,kX,hy2⟩:=info_parts infoEv
 have HR:=Y hr
 have vC:=Y hs
 have HG:=Y hg
 have qw:=Y ht
 have vR:=hg.len
 have uG:Hid (0 ≤ next∧next ≤ 1000000):=⟨h0,G⟩
 have uQ:=Y (fun (W:World) hW=>dw next vb l c W hW hs hg uC ht)
 rw [ref_eq] at uQ
 have HK:=Y (@cY next l c)
 have HQ:=Y (@cJ next l c)
 have qJ:=Y (@ref_id next l c)
 have jD:=Y (@ref_newS next l c)
 have uA:=Y qX
 clear qX
 have uX:Hid (stN next l c = if refR next l c = 0∧c.k = 1 then next + 1 else next):=rfl
 have uD:=Y (stL.eq_1 next l c)
 have uW:=Y (stE.eq_1 next l c)
 have ou:=Y (fun W=>dv c W ht)
 have qO:=Y (fun (a:Option Addr) (n A:Nat) (W:World)=>di next a n A c W)
 have kb:=Y (fun (v:Value) (W:World) hr hs hp jq qU=>dh v l c next W hr hg hs hp jq qU)
 obtain ⟨a,A,rfl,vF,hc⟩:=hr
 obtain ⟨kk,s,ty,li,F,ii,pr,L⟩:=c
 generalize stN next l ⟨kk,s,ty,li,F,ii,pr,L⟩ = sN at uX ⊢
 generalize stL next l ⟨kk,s,ty,li,F,ii,pr,L⟩ = sL at uD ⊢
 generalize stE next l ⟨kk,s,ty,li,F,ii,pr,L⟩ = sE at uW ⊢
 generalize refR next l ⟨kk,s,ty,li,F,ii,pr,L⟩ = rr at uQ uX uD uW HK HQ qJ jD uA
 unfold cmV at uQ qO ⊢
 simp only at uQ uX uD uW HK HQ qJ jD ou qO kb qw uA ⊢
 have HB:=Y (box3 w [H next,.slice a l.length A] (yv kk s ty li F ii pr L) [H 0,.slice none 0 0] 28 43 28)
 clear hs hg uC h0 G ht hc vF
 go_enter Tryz.func44,Tryz.ntmps44
 refine eF fun hj xq=>?_
 go_wp2_with fail
 refine U xq _ _ ?_
 clear xq
 change Hid ((((w.alloc (N #[H next,.slice a l.length A] 28)).alloc (N (yv kk s ty li F ii pr L).toArray 43)).alloc (N #[H 0,.slice none 0 0] 28)).heap.size = w.heap.size + 3∧World.rangeAt (((w.alloc (N #[H next,.slice a l.length A] 28)).alloc (N (yv kk s ty li F ii pr L).toArray 43)).alloc (N #[H 0,.slice none 0 0] 28)) w.heap.size 0 [H next,.slice a l.length A]∧World.rangeAt (((w.alloc (N #[H next,.slice a l.length A] 28)).alloc (N (yv kk s ty li F ii pr L).toArray 43)).alloc (N #[H 0,.slice none 0 0] 28)) (w.heap.size + 1) 0 (yv kk s ty li F ii pr L)∧World.rangeAt (((w.alloc (N #[H next,.slice a l.length A] 28)).alloc (N (yv kk s ty li F ii pr L).toArray 43)).alloc (N #[H 0,.slice none 0 0] 28)) (w.heap.size + 1 + 1) 0 [H 0,.slice none 0 0]∧World.there (((w.alloc (N #[H next,.slice a l.length A] 28)).alloc (N (yv kk s ty li F ii pr L).toArray 43)).alloc (N #[H 0,.slice none 0 0] 28)) (w.heap.size + 1 + 1) 0 2∧ym w (((w.alloc (N #[H next,.slice a l.length A] 28)).alloc (N (yv kk s ty li F ii pr L).toArray 43)).alloc (N #[H 0,.slice none 0 0] 28))) at HB
 generalize (((w.alloc (N #[H next,.slice a l.length A] 28)).alloc (N (yv kk s ty li F ii pr L).toArray 43)).alloc (N #[H 0,.slice none 0 0] 28)) = xm at HB ⊢
 have xG:Hid (∀ W:World,ym xm W→W.cell? (yp w 0) = some (H next)∧W.cell? (yp w 1) = some (.slice a l.length A)∧W.cell? (J (w.heap.size + 1) 0) = some (H kk)∧W.cell? (J (w.heap.size + 1) 1) = some (H s)∧W.cell? (J (w.heap.size + 1) 2) = some (H ty)∧W.cell? (J (w.heap.size + 1) 3) = some (H li)∧W.cell? (J (w.heap.size + 1) 4) = some (H F)∧W.cell? (J (w.heap.size + 1) 5) = some (H ii)∧W.cell? (J (w.heap.size + 1) 6) = some (yi pr)∧W.cell? (J (w.heap.size + 1) 7) = some (yj L)):=fun W hW =>
  have p:=zb (U HB).2.1 hW (by have:=(U HB).1; omega)
  have q:=zb (U HB).2.2.1 hW (by have:=(U HB).1; omega)
  ⟨p 0 _ rfl,p 1 _ rfl,q 0 _ rfl,q 1 _ rfl,q 2 _ rfl,q 3 _ rfl,q 4 _ rfl,q 5 _ rfl,q 6 _ rfl,q 7 _ rfl⟩
 have vz:w.heap.size + 1 + 1 < xm.heap.size:=by have:=(U HB).1; omega
 refine wp_seq_k fun hj hK=>?_
 have HT:∀ (a6:Option Addr) (c6:Nat) (w1:World),ORow w1 xm.heap.size (.slice a6 l.length c6) l→ym xm w1→hj { tmps:=#[.agg #[H next,.slice a l.length A],.agg (yv kk s ty li F ii pr L).toArray,yn w 0,I (w.heap.size + 1) 0,I (w.heap.size + 1 + 1) 0,.slice none 0 0,.slice a6 l.length c6,M,M,M,M,M,M,M,M,M,M,M,.slice (some (yp xm 0)) 0 0,yn w 1,.slice a l.length A,.slice a6 l.length c6,M,M,M,M,M,M,M,M,M,M,M,M,M,M,M,M,M,M,M,M,M,M,M,M,M,M,M,M,M,M,M,M,M,M,M,M,M,M,M,M,M,M,M,M,M,M,M,M,M,M,M,M,M,M,M,M,M,M,M,M,M,M,M,M,M,M,M,M,M,M,M,M,M,M,M,M,M,M,M,M,M,M,M,M,M,M,M,M,M,M,M,M,M,M,M,M,M,M,M,M,M,M,M,M,M,M,M,M,M,M,M,M,M,M,M,M,M,M,M,M,M,M,M,M,M,M,M,M,M,M,M,M,M,M,M,M,M,M,M,M,M,M,M,M,M,M,M,M,M],defers:=[] } w1:=by
  intro a6 c6 w1 vZ xU
  refine hK _ _ ?_
  clear hK
  have vl:=Y vZ
  have xW:=Y xU
  clear vZ xU
  obtain ⟨z0,z1,y0,y1,y2,y3,y4,y5,y6,y7⟩:=U xG w1 (U xW)
  refine eF fun hj xq=>?_
  go_wp2_with fail
  refine (U uQ w1 (zh (U HR) ((U HB).2.2.2.2.2.trans ((U xW).mono (U HB).2.2.2.2.2.size)) hb)).mono ?_
  rintro e w2 ⟨rfl,xS⟩
  have vV:=Y (zj (U vl) xS)
  have xD:=Y (eE (U xW) xS)
  clear z0 z1 y0 y1 y2 y3 y4 y5 y6 y7 xS vl
  obtain ⟨z0,z1,y0,y1,y2,y3,y4,y5,y6,y7⟩:=U xG w2 (U xD)
  have vN:=Y (ze (U HB).2.2.2.2.1 (U xD) vz)
  have ox:w.heap.size + 1 + 1 < w2.heap.size:=yH vz (U xD).size
  have xJ:=Y ((U HB).2.2.2.2.2.trans ((U xD).mono (U HB).2.2.2.2.2.size))
  have hXw:w.heap.size ≤ xm.heap.size:=by omega
  have hX2:xm.heap.size ≤ w2.heap.size:=(U xD).size
  have oi:=hX2
  by_cases vi:rr = 0
  ·subst vi
   have pD:=U HK rfl
   rcases pD with rfl | rfl | rfl | rfl
   ·exact absurd (U uA).2 (by decide)
   ·exact absurd (U uA).2 (by decide)
   ·obtain ⟨k,o,oJ,jn⟩:=U qJ rfl (by simp)
    have qT:(plc l ii).toNat = k:=by rw [oJ]; rfl
    have xA:l ≠ []:=by rintro rfl; simp at jn
    have kg:=(yE.1 jn).1
    have uI:Hid (sN = next∧sE = [⟨7,zCm,ii,0,F,0,0⟩]):=⟨by rw [U uX,if_neg (fun h=>by have:=h.2; omega)],by rw [U uW,if_pos rfl,if_neg (by omega),if_neg (by omega),if_pos rfl]⟩
    have HLD:Hid (l.set k { o with left:=F } = sL):=by show _ = _; rw [U uD,if_pos rfl,if_neg (by omega),if_neg (by omega),if_pos rfl]; simp only [qT,jn]
    have HPK:=Y oJ
    have HLO:=Y jn
    clear oJ jn qT uX uD uW HQ qJ HK jD qO kb ou
    obtain ⟨g,cp,hv6,vW,hBg,hgw⟩:=dn (U vV) xA
    simp only [Value.slice.injEq] at hv6
    obtain ⟨rfl,-,rfl⟩:=hv6
    go_wp2_with fail
    refine U xq _ _ ?_
    clear xq
    go_wp2_with fail
    refine (dj _ l ii w2 (zR (U vV) (by omega))).mono ?_
    rw [U HPK]
    rintro e w3 ⟨rfl,uw⟩
    have qL:=Y (zj (U vV) uw)
    have xP:=Y (eE (U xD) uw)
    clear uw z0 z1 y0 y1 y2 y3 y4 y5 y6 y7 vN xJ ox oi
    have vN:=Y (ze (U HB).2.2.2.2.1 (U xP) vz)
    have ox:w.heap.size + 1 + 1 < w3.heap.size:=yH vz (U xP).size
    have xJ:=Y ((U HB).2.2.2.2.2.trans ((U xP).mono (U HB).2.2.2.2.2.size))
    have oi:xm.heap.size ≤ w3.heap.size:=(U xP).size
    obtain ⟨z0,z1,y0,y1,y2,y3,y4,y5,y6,y7⟩:=U xG w3 (U xP)
    have uU:=row_here (U qL) (by omega) (U HLO)
    have hkl':(k:Int) < l.length:=by omega
    have hk0:(0:Int) ≤ k:=by omega
    have hgR:g ≠ w.heap.size + 1 + 1:=by omega
    have hRS:w.heap.size + 1 + 1 < xm.heap.size:=vz
    have hG3:w3.cell? (J g (k * 6 + 3)) = some (H o.left):=uU.1 3 _ rfl
    have hF3:w3.frozen? (J g (k * 6 + 3)) = false:=uU.2 3 (by omega)
    clear uU
    have oe:Hid (ORow (w3.setCell (J g (k * 6 + 3)) (H F)) xm.heap.size (.slice (some (J g 0)) l.length c6) sL):=by have:=(oRow_left (U qL) rfl (U HLO) F).1; rw [U HLD] at this; exact this
    have xY:Hid (ym xm (w3.setCell (J g (k * 6 + 3)) (H F))):=(U xP).setCell (p:=(J g (k * 6 + 3))) hBg _
    go_wp2_with fail
    clear z0 z1 y0 y1 y2 y3 y4 y5 y6 y7 hG3 hF3 vN xJ ox oi
    generalize (w3.setCell (J g (k * 6 + 3)) (H F)) = w4 at oe xY ⊢
    have vN:=Y (ze (U HB).2.2.2.2.1 (U xY) vz)
    have ox:w.heap.size + 1 + 1 < w4.heap.size:=yH vz (U xY).size
    have xJ:=Y ((U HB).2.2.2.2.2.trans ((U xY).mono (U HB).2.2.2.2.2.size))
    have oi:xm.heap.size ≤ w4.heap.size:=(U xY).size
    obtain ⟨z0,z1,y0,y1,y2,y3,y4,y5,y6,y7⟩:=U xG w4 (U xY)
    have HZ0:=Y z0
    have HZ1:=Y z1
    have HY0:=Y y0
    have HY1:=Y y1
    have HY2:=Y y2
    have HY3:=Y y3
    have HY4:=Y y4
    have HY5:=Y y5
    have HY6:=Y y6
    have pp:=Y y7
    go_wp2_with fail
    clear z0 z1 y0 y1 y2 y3 y4 y5 y6 y7
    refine zi (RXA (fun f=>{ tmps:=#[.agg #[H next,.slice a l.length A],.agg (yv 3 s ty li F ii pr L).toArray,yn w 0,I (w.heap.size + 1) 0,I (w.heap.size + 1 + 1) 0,f 11,.slice (some (J g 0)) l.length c6,H 0,H k,M,M,M,M,M,M,M,M,M,.slice (some (yp xm 0)) 0 0,yn w 1,.slice a l.length A,.slice (some (J g 0)) l.length c6,.agg #[H next,.slice a l.length A],.agg (yv 3 s ty li F ii pr L).toArray,H 0,H 0,.bool false,M,M,M,M,M,M,M,M,M,.slice (some (J g 0)) l.length c6,I (w.heap.size + 1) 5,H ii,H k,I (w.heap.size + 1) 0,H 3,.bool false,.bool false,M,M,M,M,M,M,M,M,M,M,M,M,M,M,M,M,.bool true,.bool true,.slice (some (J g 0)) l.length c6,H k,I (w.heap.size + 1) 4,H F,I g (k * 6),I g (k * 6 + 3),f 0,f 1,f 2,f 3,f 4,f 5,f 6,f 7,f 8,f 9,M,M,M,M,M,M,M,M,M,M,M,M,M,M,M,M,M,M,M,M,M,M,M,M,M,M,M,M,M,M,M,M,M,M,M,M,M,M,M,M,M,M,M,M,M,M,M,M,M,M,M,M,M,M,M,M,M,M,M,M,M,M,M,M,M,M,M,M,M,M,M,M,M,M,M,M,M,M,M,M,M,M,M,M,M,M,M,M,M,M,M,M,M],defers:=[] }) (CX [yn w 0,H next,.slice (some (J g 0)) l.length c6,.agg #[H next,.slice (some (J g 0)) l.length c6],I (w.heap.size + 1) 5,H ii,I (w.heap.size + 1) 4,H F,.agg (yt 7 0 0 0 0 0 0 0 ⟨#[]⟩ ii 0 F 0 0).toArray,M,M,M] [(9,2),(10,9),(11,2)] (xm.heap.size) (next) (sL) ([⟨7,zCm,ii,0,F,0,0⟩])) (w.heap.size + 1 + 1) 2 10 (fun f=>aggL (f 3)) w4) (by kernel_rfl) ?_ ?_ ?_
    ·exact ⟨fun j=>if j = 11 then .slice none 0 0 else M,rfl,rx_start ox (U vN)⟩
    rotate_left
    ·rintro x xj V i op ⟨f,rfl,E⟩ X hx Z xu Q
     have xw:=Y E
     have xk:∀ (p:Addr) u,w4.cell? p = some u→p.block ≠ w.heap.size + 1 + 1→V.cell? p = some u:=fun p u hu hp=>kb_cell E.k hu hp
     match i,Z with
      | 0,Z =>
       obtain rfl:=ya Z
       clear Q E xk X
       rw [if_pos (by rfl)];unfold Oper.wp;go_simp
       exact ⟨upd f 0 (yn w 0),by simp [upd],zX (U xw) 0 _ (by decide) (fun _=>rfl) (zY rfl rfl)⟩
      | 1,Z =>
       obtain rfl:=ya Z
       have g0:f 0 = yn w 0:=zU (E.c 0 (yd Q 0 rfl)) rfl rfl
       have z0:=xk (yp w 0) _ (U HZ0) (show w.heap.size ≠ w.heap.size + 1 + 1 by omega)
       clear Q E xk X
       rw [if_pos (by rfl)];unfold Oper.wp;go_simp
       exact ⟨upd f 1 (H next),by simp [upd,g0],zX (U xw) 1 _ (by decide) (fun _=>rfl) (zY rfl rfl)⟩
      | 2,Z =>
       obtain rfl:=ya Z
       clear Q E xk X
       rw [if_pos (by rfl)];unfold Oper.wp;go_simp
       exact ⟨upd f 2 (.slice (some (J g 0)) l.length c6),by simp [upd],zX (U xw) 2 _ (by decide) (fun _=>rfl) (zY rfl rfl)⟩
      | 3,Z =>
       obtain rfl:=ya Z
       have g1:f 1 = H next:=zU (E.c 1 (yd Q 1 rfl)) rfl rfl
       have g2:f 2 = .slice (some (J g 0)) l.length c6:=zU (E.c 2 (yd Q 2 rfl)) rfl rfl
       have hcl0:=X
       clear Q E xk X
       rw [if_pos (by rfl)];unfold Oper.wp;go_simp
       exact ⟨upd f 3 (.agg #[H next,.slice (some (J g 0)) l.length c6]),by simp [upd,g1,g2],zX (U xw) 3 _ (by decide) (fun h=>by rw [zy hcl0 12 3 10 (by kernel_rfl) hx (by simp) xu] at h; cases h) (zY rfl rfl)⟩
      | 4,Z =>
       obtain rfl:=ya Z
       clear Q E xk X
       rw [if_pos (by rfl)];unfold Oper.wp;go_simp
       exact ⟨upd f 4 (I (w.heap.size + 1) 5),by simp [upd],zX (U xw) 4 _ (by decide) (fun _=>rfl) (zY rfl rfl)⟩
      | 5,Z =>
       obtain rfl:=ya Z
       have g4:f 4 = I (w.heap.size + 1) 5:=zU (E.c 4 (yd Q 4 rfl)) rfl rfl
       have y5:=xk (J (w.heap.size + 1) 5) _ (U HY5) (show w.heap.size + 1 ≠ w.heap.size + 1 + 1 by omega)
       clear Q E xk X
       rw [if_pos (by rfl)];unfold Oper.wp;go_simp
       exact ⟨upd f 5 (H ii),by simp [upd,g4],zX (U xw) 5 _ (by decide) (fun _=>rfl) (zY rfl rfl)⟩
      | 6,Z =>
       obtain rfl:=ya Z
       clear Q E xk X
       rw [if_pos (by rfl)];unfold Oper.wp;go_simp
       exact ⟨upd f 6 (I (w.heap.size + 1) 4),by simp [upd],zX (U xw) 6 _ (by decide) (fun _=>rfl) (zY rfl rfl)⟩
      | 7,Z =>
       obtain rfl:=ya Z
       have g6:f 6 = I (w.heap.size + 1) 4:=zU (E.c 6 (yd Q 6 rfl)) rfl rfl
       have y4:=xk (J (w.heap.size + 1) 4) _ (U HY4) (show w.heap.size + 1 ≠ w.heap.size + 1 + 1 by omega)
       clear Q E xk X
       rw [if_pos (by rfl)];unfold Oper.wp;go_simp
       exact ⟨upd f 7 (H F),by simp [upd,g6],zX (U xw) 7 _ (by decide) (fun _=>rfl) (zY rfl rfl)⟩
      | 8,Z =>
       obtain rfl:=ya Z
       have g5:f 5 = H ii:=zU (E.c 5 (yd Q 5 rfl)) rfl rfl
       have g7:f 7 = H F:=zU (E.c 7 (yd Q 7 rfl)) rfl rfl
       clear Q E xk X
       rw [if_pos (by rfl)];unfold Oper.wp;go_simp
       exact ⟨upd f 8 (.agg (yt 7 0 0 0 0 0 0 0 ⟨#[]⟩ ii 0 F 0 0).toArray),by simp [upd,g5,g7],zX (U xw) 8 _ (by decide) (fun _=>rfl) (zY rfl rfl)⟩
      | 9,Z =>
       obtain rfl:=ya Z
       have g8:f 8 = .agg (yt 7 0 0 0 0 0 0 0 ⟨#[]⟩ ii 0 F 0 0).toArray:=zU (E.c 8 (yd Q 8 rfl)) rfl rfl
       have qW:=yL oi E.k.size
       clear Q E xk X
       rw [if_pos (by rfl)];unfold Oper.wp;go_simp
       exact ⟨upd f 9 (.slice (some (yp V 0)) 1 1),by simp [upd,g8],zX (rx_grow (cO hRS) (U xw) (eB _ _)) 9 _ (by decide) (fun _=>rfl) (bI (d:=2) rfl ⟨eRow_one V ⟨7,zCm,ii,0,F,0,0⟩ qW,_,_,rfl⟩)⟩
      | 10,Z =>
       obtain rfl:=ya Z
       have g0:f 3 = .agg #[H next,.slice (some (J g 0)) l.length c6]:=zU (E.c 3 (yd Q 3 rfl)) rfl rfl
       obtain ⟨y0,z0,q0⟩:=zc E.t (j:=0) (by omega)
       obtain ⟨y1,z1,q1⟩:=zc E.t (j:=1) (by omega)
       clear Q E xk X
       rw [if_pos (by rfl)];unfold Oper.wp;go_simp
       have uO:=rx_store (cO hRS) (U xw) xu (by simp [g0,aggL]) (fun _ _=>bI (d:=9) rfl trivial)
       simp only [g0,aggL] at uO
       exact ⟨f,by simp [g0],uO⟩
      | 11,Z =>
       obtain rfl:=ya Z
       have h8:=cx_sp (d:=2) (E.c 9 (yd Q 9 rfl)) rfl
       obtain ⟨a8,c8,g8⟩:=h8.2
       rw [g8] at h8
       have H8:=Y h8
       clear h8
       clear Q E xk X
       rw [if_pos (by rfl)];unfold Oper.wp;go_simp
       exact ⟨upd f 11 (f 9),by simp [upd,g8],zX (U xw) 11 _ (by decide) (fun _=>rfl) (bI (d:=2) rfl (by rw [g8]; exact U H8))⟩
      | n + 12,Z=>simp at Z
    ·rintro x xj V ⟨f,rfl,E⟩ hx xL
     have xn:=zO xL hx (by kernel_rfl)
     obtain ⟨hE8,a8,c8,e8⟩:=cx_sp (d:=2) (E.c 11 (xn 11 (by simp))) rfl
     have vk:=E.r (xn 10 (by simp))
     obtain ⟨v4,hv4,kr⟩:∃ v4,v4 = .slice (some (J g 0)) l.length c6∧ORow V xm.heap.size v4 sL:=⟨_,rfl,bX (U oe) E.k hRS⟩
     have g3:f 3 = .agg #[H next,.slice (some (J g 0)) l.length c6]:=zU (E.c 3 (xn 3 (by simp))) rfl rfl
     simp only [g3,aggL] at vk
     rw [← hv4] at vk
     clear g3
     have HO:Hid (ORow V w.heap.size v4 _∧ERow V w.heap.size (.slice a8 _ c8) _):=⟨zE kr (by omega),zE (e8 ▸ hE8) (by omega)⟩
     have xr:Hid (ym w V):=⟨E.k.os.trans (U xJ).os,E.k.tape.trans (U xJ).tape,E.k.output.trans (U xJ).output,yL (U xJ).size E.k.size,fun k hk=>(E.k.block k (yH hk (U xJ).size) (by omega)).trans ((U xJ).block k hk)⟩
     have d0:V.cell? (J (w.heap.size + 1 + 1) 0) = some (H next):=vk 0 _ rfl
     have d1:V.cell? (J (w.heap.size + 1 + 1) 1) = some v4:=vk 1 _ rfl
     simp only [e8]
     generalize f 0 = w0,f 1 = w1,f 2 = w2,f 3 = w3,f 4 = w4,f 5 = w5,f 6 = w6,f 7 = w7,f 8 = w8,f 9 = w9
     clear E xn xL hx vk hE8 kr
     go_wp2_with fail
     try simp only [Exit.inBlock,Exit.then]
     refine bodyPost_ret (by simp [results,Tryz.results44,go_sem,d0,d1]; try rfl) rfl ?_
     obtain ⟨rfl,rfl⟩:=U uI
     exact ⟨_,_,rfl,(U HO).1,(U HO).2,U xr⟩
   ·exact absurd (U uA).2 (by decide)
  ·have kU:=vi
   have qI:(rr == 0) = false:=by rw [xb]; exact vi
   have uI:Hid (sN = next∧sL = l∧sE = [⟨2,⟨kk,s,ty,li,F,ii,pr,cutB L⟩,0,0,0,0,rr⟩]):=⟨by rw [U uX,if_neg (fun h=>vi h.1)],by rw [U uD,if_neg vi],by rw [U uW,if_neg vi]⟩
   skip
   exact absurd (U uA).1 kU
 rcases U vC with hs | ⟨ad,nn,cc,hs⟩
 ·simp only [Value.slice.injEq] at hs
  obtain ⟨rfl,pE,rfl⟩:=hs
  obtain rfl:=List.length_eq_zero_iff.1 pE
  obtain ⟨z0,z1,y0,y1,y2,y3,y4,y5,y6,y7⟩:=U xG xm (Below.refl _ _)
  have vL:=Y (World.ownsRow_made (base:=xm.heap.size) (e:=49) (size:=6) xm #[] 0 hb (by decide) rfl)
  have hzX:World.cell? (xm.alloc (N #[] 49)) (yp w 1) = some (.slice none 0 0):=(U xG _ (eB _ _)).2.1
  have kN:=Y HT
  clear HT hK
  go_wp2_with (at_builtin; go_must (refine wpList_append_own_none rfl _ _ 26 rfl xm.heap.size 49 i0 6 Tryz.underlying26 uE (.slice (some (yp xm 0)) 0 0) 0 [] rfl (U vL) rfl ?_))
  exact U kN _ _ _ (U vL) (eB _ _)
 ·simp only [Value.slice.injEq] at hs
  obtain ⟨rfl,rfl,rfl⟩:=hs
  obtain ⟨z0,z1,y0,y1,y2,y3,y4,y5,y6,y7⟩:=U xG xm (Below.refl _ _)
  have uP:Hid (ym xm (xm.alloc (N #[] 49))):=eB _ _
  have vL:=Y (World.ownsRow_made (base:=xm.heap.size) (e:=49) (size:=6) xm #[] 0 hb (by decide) rfl)
  have hzX:World.cell? (xm.alloc (N #[] 49)) (yp w 1) = some (.slice (some ad) l.length A):=(U xG _ (U uP)).2.1
  have vf:Hid (∀ j u,(l.flatMap Od.vs)[j]? = some u→World.cell? (xm.alloc (N #[] 49)) (ad.add j) = some u):=rd_src (zh (U HR) ((U HB).2.2.2.2.2.trans ((U uP).mono (U HB).2.2.2.2.2.size)) hb)
  have kN:=Y HT
  clear HT hK
  go_wp2_with (at_builtin; go_must (refine wpList_append_own _ rfl _ _ 26 rfl xm.heap.size 49 i0 _ 6 56 Tryz.underlying26 uE uF uK uV rfl (by decide) (.slice (some (yp xm 0)) 0 0) 0 [] rfl (U vL) ad l.length A (l.flatMap Od.vs) rfl (by rw [zK Od.len]) (U vf) (bi l) (by unfold maxLen; omega) (by omega) (U uP).size ?_); intro v1 w1 vd qk _; have vl:=Y vd; have kw:=Y qk; clear vd qk)
  have pX:Hid (ORow w1 xm.heap.size v1 l):=by
   show w1.ownsRow _ _ _ _ l.length _
   simpa using U vl
  obtain ⟨a6,c6,hv⟩:=zL (U pX)
  subst hv
  exact U kN _ _ _ (U pX) ((U uP).grown (U kw) (U uP).size (fun k hk=>((U vL).lt k hk).1))
end Go.Proofs.YtbakanofkghmiaaGreat
