/-
  A command done on a book, by the model: proved by walking the function.
-/
import Derived.Test.YtbakanofkghmiaaGreatWj41
set_option linter.unusedVariables false
set_option maxHeartbeats 6400000
set_option maxRecDepth 100000
namespace Go.Proofs.YtbakanofkghmiaaGreat
open Go.RowKit
theorem l04Step_c (next:Int) (vb:Value) (l:List Od) (c:Cm) (w:World) (jc:refR next l c = 0∧c.k = 2) (hr:RdR Od.vs 6 w vb l) (hs:SlOk vb) (hg:GoodL l) (uD:∀ x ∈ l,x.side = 1 ∨ x.side = 2) (h0:0 ≤ next) (G:next ≤ 1000000) (ht:c.g.size ≤ maxLen) :
  Calls Tryz.prog 44 #[.agg #[H next,vb],cmV c] w fun e w'=>∃ vq vg,e = ym (.tuple #[.agg #[H (stN next l c),vq],vg])∧ORow w' w.heap.size vq (stL next l c)∧ERow w' w.heap.size vg (stE next l c)∧yn w w':=by
 obtain ⟨i0,uH,uF,uJ,uQ⟩:=info_parts Tryz.infoOrder
 obtain ⟨j0,jj,pY,hy1,hy2⟩:=info_parts infoEv
 have HR:=Y hr
 have vP:=Y hs
 have HG:=Y hg
 have qI:=Y ht
 have vN:=hg.len
 have uI:Hid (0 ≤ next∧next ≤ 1000000):=⟨h0,G⟩
 have uO:=Y (fun (W:World) hW=>dJ next vb l c W hW hs hg uD ht)
 rw [ref_eq] at uO
 have HK:=Y (@di next l c)
 have HQ:=Y (@cK next l c)
 have qN:=Y (@ref_id next l c)
 have jF:=Y (@ref_newS next l c)
 have uB:=Y jc
 clear jc
 have vj:Hid (stN next l c = if refR next l c = 0∧c.k = 1 then next + 1 else next):=rfl
 have uE:=Y (stL.eq_1 next l c)
 have vi:=Y (stE.eq_1 next l c)
 have oA:=Y (fun W=>dI c W ht)
 have uP:=Y (fun (a:Option Addr) (n A:Nat) (W:World)=>dt next a n A c W)
 have kg:=Y (fun (v:Value) (W:World) hr hs hp qd qe=>dr v l c next W hr hg hs hp qd qe)
 obtain ⟨a,A,rfl,vE,hc⟩:=hr
 obtain ⟨kk,s,ty,li,O,ii,pr,L⟩:=c
 generalize stN next l ⟨kk,s,ty,li,O,ii,pr,L⟩ = sN at vj ⊢
 generalize stL next l ⟨kk,s,ty,li,O,ii,pr,L⟩ = sL at uE ⊢
 generalize stE next l ⟨kk,s,ty,li,O,ii,pr,L⟩ = sE at vi ⊢
 generalize refR next l ⟨kk,s,ty,li,O,ii,pr,L⟩ = rr at uO vj uE vi HK HQ qN jF uB
 unfold cmV at uO uP ⊢
 simp only at uO vj uE vi HK HQ qN jF oA uP kg qI uB ⊢
 have HB:=Y (box3 w [H next,.slice a l.length A] (yw kk s ty li O ii pr L) [H 0,.slice none 0 0] 28 43 28)
 clear hs hg uD h0 G ht hc vE
 go_enter Tryz.func44,Tryz.ntmps44
 refine eH fun hj xu=>?_
 go_wp2_with fail
 refine U xu _ _ ?_
 clear xu
 change Hid ((((w.alloc (eF #[H next,.slice a l.length A] 28)).alloc (eF (yw kk s ty li O ii pr L).toArray 43)).alloc (eF #[H 0,.slice none 0 0] 28)).heap.size = w.heap.size + 3∧World.rangeAt (((w.alloc (eF #[H next,.slice a l.length A] 28)).alloc (eF (yw kk s ty li O ii pr L).toArray 43)).alloc (eF #[H 0,.slice none 0 0] 28)) w.heap.size 0 [H next,.slice a l.length A]∧World.rangeAt (((w.alloc (eF #[H next,.slice a l.length A] 28)).alloc (eF (yw kk s ty li O ii pr L).toArray 43)).alloc (eF #[H 0,.slice none 0 0] 28)) (w.heap.size + 1) 0 (yw kk s ty li O ii pr L)∧World.rangeAt (((w.alloc (eF #[H next,.slice a l.length A] 28)).alloc (eF (yw kk s ty li O ii pr L).toArray 43)).alloc (eF #[H 0,.slice none 0 0] 28)) (w.heap.size + 1 + 1) 0 [H 0,.slice none 0 0]∧World.there (((w.alloc (eF #[H next,.slice a l.length A] 28)).alloc (eF (yw kk s ty li O ii pr L).toArray 43)).alloc (eF #[H 0,.slice none 0 0] 28)) (w.heap.size + 1 + 1) 0 2∧yn w (((w.alloc (eF #[H next,.slice a l.length A] 28)).alloc (eF (yw kk s ty li O ii pr L).toArray 43)).alloc (eF #[H 0,.slice none 0 0] 28))) at HB
 generalize (((w.alloc (eF #[H next,.slice a l.length A] 28)).alloc (eF (yw kk s ty li O ii pr L).toArray 43)).alloc (eF #[H 0,.slice none 0 0] 28)) = hR at HB ⊢
 have xK:Hid (∀ W:World,yn hR W→W.cell? (yq w 0) = some (H next)∧W.cell? (yq w 1) = some (.slice a l.length A)∧W.cell? (J (w.heap.size + 1) 0) = some (H kk)∧W.cell? (J (w.heap.size + 1) 1) = some (H s)∧W.cell? (J (w.heap.size + 1) 2) = some (H ty)∧W.cell? (J (w.heap.size + 1) 3) = some (H li)∧W.cell? (J (w.heap.size + 1) 4) = some (H O)∧W.cell? (J (w.heap.size + 1) 5) = some (H ii)∧W.cell? (J (w.heap.size + 1) 6) = some (yj pr)∧W.cell? (J (w.heap.size + 1) 7) = some (yk L)):=fun W hW =>
  have p:=zb (U HB).2.1 hW (by have:=(U HB).1; omega)
  have q:=zb (U HB).2.2.1 hW (by have:=(U HB).1; omega)
  ⟨p 0 _ rfl,p 1 _ rfl,q 0 _ rfl,q 1 _ rfl,q 2 _ rfl,q 3 _ rfl,q 4 _ rfl,q 5 _ rfl,q 6 _ rfl,q 7 _ rfl⟩
 have vS:w.heap.size + 1 + 1 < hR.heap.size:=by have:=(U HB).1; omega
 refine wp_seq_k fun hj hK=>?_
 have HT:∀ (a6:Option Addr) (c6:Nat) (w1:World),ORow w1 hR.heap.size (.slice a6 l.length c6) l→yn hR w1→hj { tmps:=#[.agg #[H next,.slice a l.length A],.agg (yw kk s ty li O ii pr L).toArray,yp w 0,I (w.heap.size + 1) 0,I (w.heap.size + 1 + 1) 0,.slice none 0 0,.slice a6 l.length c6,M,M,M,M,M,M,M,M,M,M,M,.slice (some (yq hR 0)) 0 0,yp w 1,.slice a l.length A,.slice a6 l.length c6,M,M,M,M,M,M,M,M,M,M,M,M,M,M,M,M,M,M,M,M,M,M,M,M,M,M,M,M,M,M,M,M,M,M,M,M,M,M,M,M,M,M,M,M,M,M,M,M,M,M,M,M,M,M,M,M,M,M,M,M,M,M,M,M,M,M,M,M,M,M,M,M,M,M,M,M,M,M,M,M,M,M,M,M,M,M,M,M,M,M,M,M,M,M,M,M,M,M,M,M,M,M,M,M,M,M,M,M,M,M,M,M,M,M,M,M,M,M,M,M,M,M,M,M,M,M,M,M,M,M,M,M,M,M,M,M,M,M,M,M,M,M,M,M,M,M,M,M,M],defers:=[] } w1:=by
  intro a6 c6 w1 vu xW
  refine hK _ _ ?_
  clear hK
  have vp:=Y vu
  have xU:=Y xW
  clear vu xW
  obtain ⟨z0,z1,y0,y1,y2,y3,y4,y5,y6,y7⟩:=U xK w1 (U xU)
  refine eH fun hj xu=>?_
  go_wp2_with fail
  refine (U uO w1 (zn (U HR) ((U HB).2.2.2.2.2.trans ((U xU).mono (U HB).2.2.2.2.2.size)) qt)).mono ?_
  rintro e w2 ⟨rfl,xY⟩
  have vT:=Y (zm (U vp) xY)
  have xD:=Y (D (U xU) xY)
  clear z0 z1 y0 y1 y2 y3 y4 y5 y6 y7 xY vp
  obtain ⟨z0,z1,y0,y1,y2,y3,y4,y5,y6,y7⟩:=U xK w2 (U xD)
  have vU:=Y (zg (U HB).2.2.2.2.1 (U xD) vS)
  have oP:w.heap.size + 1 + 1 < w2.heap.size:=yJ vS (U xD).size
  have xM:=Y ((U HB).2.2.2.2.2.trans ((U xD).mono (U HB).2.2.2.2.2.size))
  have hXw:w.heap.size ≤ hR.heap.size:=by omega
  have hX2:hR.heap.size ≤ w2.heap.size:=(U xD).size
  have oj:=hX2
  by_cases vf:rr = 0
  ·subst vf
   have pR:=U HK rfl
   rcases pR with rfl | rfl | rfl | rfl
   ·exact absurd (U uB).2 (by decide)
   ·obtain ⟨k,o,oY,jr⟩:=U qN rfl (by simp)
    have qZ:(plc l ii).toNat = k:=by rw [oY]; rfl
    have xB:l ≠ []:=by rintro rfl; simp at jr
    have kI:=(yG.1 jr).1
    have uK:Hid (sN = next∧sE = [⟨6,zCm,ii,0,o.left,0,0⟩]):=⟨by rw [U vj,if_neg (fun h=>by have:=h.2; omega)],by rw [U vi,if_pos rfl,if_neg (by omega),if_pos rfl]; simp only [qZ,jr]⟩
    have HLD:Hid (l.take k ++ l.drop (k + 1) = sL):=by show _ = _; rw [U uE,if_pos rfl,if_neg (by omega),if_pos rfl]; simp only [qZ,jr]; rw [aN,if_pos rfl]
    have HPK:=Y oY
    have HLO:=Y jr
    clear oY jr qZ vj uE vi HQ qN HK jF uP kg oA
    obtain ⟨g,cp,hv6,vV,hBg,hgw⟩:=dx (U vT) xB
    simp only [Value.slice.injEq] at hv6
    obtain ⟨rfl,-,rfl⟩:=hv6
    go_wp2_with fail
    refine U xu _ _ ?_
    clear xu
    go_wp2_with fail
    refine (du _ l ii w2 (zN (U vT) (by omega))).mono ?_
    rw [U HPK]
    rintro e w3 ⟨rfl,uC⟩
    have qQ:=Y (zm (U vT) uC)
    have xV:=Y (D (U xD) uC)
    clear uC z0 z1 y0 y1 y2 y3 y4 y5 y6 y7 vU xM oP oj
    have vU:=Y (zg (U HB).2.2.2.2.1 (U xV) vS)
    have oP:w.heap.size + 1 + 1 < w3.heap.size:=yJ vS (U xV).size
    have xM:=Y ((U HB).2.2.2.2.2.trans ((U xV).mono (U HB).2.2.2.2.2.size))
    have oj:hR.heap.size ≤ w3.heap.size:=(U xV).size
    obtain ⟨z0,z1,y0,y1,y2,y3,y4,y5,y6,y7⟩:=U xK w3 (U xV)
    have uU:=row_here (U qQ) (by omega) (U HLO)
    have hkl':(k:Int) < l.length:=by omega
    have hk0:(0:Int) ≤ k:=by omega
    have hgR:g ≠ w.heap.size + 1 + 1:=by omega
    have hRS:w.heap.size + 1 + 1 < hR.heap.size:=vS
    have HZ0:=Y z0
    have HZ1:=Y z1
    have HY0:=Y y0
    have HY1:=Y y1
    have HY2:=Y y2
    have HY3:=Y y3
    have HY4:=Y y4
    have HY5:=Y y5
    have HY6:=Y y6
    have HY7:=Y y7
    have hG3:w3.cell? (J g (k * 6 + 3)) = some (H o.left):=uU.1 3 _ rfl
    clear uU
    go_wp2_with fail
    clear z0 z1 y0 y1 y2 y3 y4 y5 y6 y7 hG3
    refine zj (RXA (fun f=>{ tmps:=#[.agg #[H next,.slice a l.length A],.agg (yw 2 s ty li O ii pr L).toArray,yp w 0,I (w.heap.size + 1) 0,I (w.heap.size + 1 + 1) 0,f 12,.slice (some (J g 0)) l.length c6,H 0,H k,H o.left,M,M,M,M,M,M,M,M,.slice (some (yq hR 0)) 0 0,yp w 1,.slice a l.length A,.slice (some (J g 0)) l.length c6,.agg #[H next,.slice a l.length A],.agg (yw 2 s ty li O ii pr L).toArray,H 0,H 0,.bool false,M,M,M,M,M,M,M,M,M,.slice (some (J g 0)) l.length c6,I (w.heap.size + 1) 5,H ii,H k,I (w.heap.size + 1) 0,H 2,.bool true,.bool true,.slice (some (J g 0)) l.length c6,H k,I g (k * 6),I g (k * 6 + 3),H o.left,f 0,f 1,f 2,f 3,f 4,f 5,f 6,f 7,f 8,f 9,f 10,M,M,M,M,M,M,M,M,M,M,M,M,M,M,M,M,M,M,M,M,M,M,M,M,M,M,M,M,M,M,M,M,M,M,M,M,M,M,M,M,M,M,M,M,M,M,M,M,M,M,M,M,M,M,M,M,M,M,M,M,M,M,M,M,M,M,M,M,M,M,M,M,M,M,M,M,M,M,M,M,M,M,M,M,M,M,M,M,M,M,M,M,M,M,M,M,M,M,M,M,M,M,M,M,M,M,M,M,M,M,M],defers:=[] }) (CX [yp w 0,H next,.slice (some (J g 0)) l.length c6,H k,M,M,I (w.heap.size + 1) 5,H ii,H o.left,.agg (yu 6 0 0 0 0 0 0 0 ⟨#[]⟩ ii 0 o.left 0 0).toArray,M,M,M] [(4,0),(5,1),(10,2),(11,9),(12,2)] (hR.heap.size) (next) (sL) ([⟨6,zCm,ii,0,o.left,0,0⟩])) (w.heap.size + 1 + 1) 2 11 (fun f=>aggL (f 5)) w3) (by kernel_rfl) ?_ ?_ ?_
    ·exact ⟨fun j=>if j = 12 then .slice none 0 0 else M,rfl,rx_start oP (U vU)⟩
    rotate_left
    ·rintro x xm V i op ⟨f,rfl,X⟩ xo hx Z xy Q
     have xz:=Y X
     have xn:∀ (p:Addr) u,w3.cell? p = some u→p.block ≠ w.heap.size + 1 + 1→V.cell? p = some u:=fun p u hu hp=>kb_cell X.k hu hp
     match i,Z with
      | 0,Z =>
       obtain rfl:=ya Z
       clear Q X xn xo
       rw [if_pos (by rfl)];unfold Oper.wp;go_simp
       exact ⟨upd f 0 (yp w 0),by simp [upd],aR (U xz) 0 _ (by decide) (fun _=>rfl) (zW rfl rfl)⟩
      | 1,Z =>
       obtain rfl:=ya Z
       have g0:f 0 = yp w 0:=zS (X.c 0 (ye Q 0 rfl)) rfl rfl
       have z0:=xn (yq w 0) _ (U HZ0) (show w.heap.size ≠ w.heap.size + 1 + 1 by omega)
       clear Q X xn xo
       rw [if_pos (by rfl)];unfold Oper.wp;go_simp
       exact ⟨upd f 1 (H next),by simp [upd,g0],aR (U xz) 1 _ (by decide) (fun _=>rfl) (zW rfl rfl)⟩
      | 2,Z =>
       obtain rfl:=ya Z
       clear Q X xn xo
       rw [if_pos (by rfl)];unfold Oper.wp;go_simp
       exact ⟨upd f 2 (.slice (some (J g 0)) l.length c6),by simp [upd],aR (U xz) 2 _ (by decide) (fun _=>rfl) (zW rfl rfl)⟩
      | 3,Z =>
       obtain rfl:=ya Z
       clear Q X xn xo
       rw [if_pos (by rfl)];unfold Oper.wp;go_simp
       exact ⟨upd f 3 (H k),by simp [upd],aR (U xz) 3 _ (by decide) (fun _=>rfl) (zW rfl rfl)⟩
      | 4,Z =>
       obtain rfl:=ya Z
       have g2:f 2 = .slice (some (J g 0)) l.length c6:=zS (X.c 2 (ye Q 2 rfl)) rfl rfl
       have g3:f 3 = H k:=zS (X.c 3 (ye Q 3 rfl)) rfl rfl
       have hOV:=kb_row (U qQ) X.k hRS
       have kq:Hid (∀ j c,l[j]? = some c→V.rangeAt g (0 + j * 6) c.vs):=fun j c K=>by have:=(row_here hOV (by omega) K).1; rw [Nat.zero_add]; exact this
       have hgV:g < V.heap.size:=yJ ((U qQ).lt g rfl).2 X.k.size
       have hXV:=yN oj X.k.size
       clear Q X xn xo hOV
       rw [if_pos (by rfl)];unfold Oper.wp;go_simp
       refine (l04Drop_any g 0 c6 l k V (U kq) hgV kI vV (by omega)).mono ?_
       rw [U HLD]
       rintro e w4 ⟨v',rfl,vB,xC⟩
       exact ⟨upd f 4 v',by simp [upd,g2,g3],aR (rx_grow (cZ hRS) (U xz) xC) 4 _ (by decide) (fun _=>rfl) (bV (d:=0) rfl ⟨zH vB hXV,zT vB⟩)⟩
      | 5,Z =>
       obtain rfl:=ya Z
       have g1:f 1 = H next:=zS (X.c 1 (ye Q 1 rfl)) rfl rfl
       have h4:=cx_sp (d:=0) (X.c 4 (ye Q 4 rfl)) rfl
       obtain ⟨a4,c4,g4⟩:=h4.2
       rw [g4] at h4
       have H4:=Y h4
       have hcl0:=xo
       clear Q X xn xo h4
       rw [if_pos (by rfl)];unfold Oper.wp;go_simp
       exact ⟨upd f 5 (.agg #[H next,.slice a4 sL.length c4]),by simp [upd,g1,g4],aR (U xz) 5 _ (by decide) (fun h=>by rw [zy hcl0 12 5 11 (by kernel_rfl) hx (by simp) xy] at h; cases h) (bV (d:=1) rfl ⟨_,rfl,⟨_,_,rfl⟩,(U H4).1⟩)⟩
      | 6,Z =>
       obtain rfl:=ya Z
       clear Q X xn xo
       rw [if_pos (by rfl)];unfold Oper.wp;go_simp
       exact ⟨upd f 6 (I (w.heap.size + 1) 5),by simp [upd],aR (U xz) 6 _ (by decide) (fun _=>rfl) (zW rfl rfl)⟩
      | 7,Z =>
       obtain rfl:=ya Z
       have g6:f 6 = I (w.heap.size + 1) 5:=zS (X.c 6 (ye Q 6 rfl)) rfl rfl
       have y5:=xn (J (w.heap.size + 1) 5) _ (U HY5) (show w.heap.size + 1 ≠ w.heap.size + 1 + 1 by omega)
       clear Q X xn xo
       rw [if_pos (by rfl)];unfold Oper.wp;go_simp
       exact ⟨upd f 7 (H ii),by simp [upd,g6],aR (U xz) 7 _ (by decide) (fun _=>rfl) (zW rfl rfl)⟩
      | 8,Z =>
       obtain rfl:=ya Z
       clear Q X xn xo
       rw [if_pos (by rfl)];unfold Oper.wp;go_simp
       exact ⟨upd f 8 (H o.left),by simp [upd],aR (U xz) 8 _ (by decide) (fun _=>rfl) (zW rfl rfl)⟩
      | 9,Z =>
       obtain rfl:=ya Z
       have g7:f 7 = H ii:=zS (X.c 7 (ye Q 7 rfl)) rfl rfl
       have g8:f 8 = H o.left:=zS (X.c 8 (ye Q 8 rfl)) rfl rfl
       clear Q X xn xo
       rw [if_pos (by rfl)];unfold Oper.wp;go_simp
       exact ⟨upd f 9 (.agg (yu 6 0 0 0 0 0 0 0 ⟨#[]⟩ ii 0 o.left 0 0).toArray),by simp [upd,g7,g8],aR (U xz) 9 _ (by decide) (fun _=>rfl) (zW rfl rfl)⟩
      | 10,Z =>
       obtain rfl:=ya Z
       have g9:f 9 = .agg (yu 6 0 0 0 0 0 0 0 ⟨#[]⟩ ii 0 o.left 0 0).toArray:=zS (X.c 9 (ye Q 9 rfl)) rfl rfl
       have jb:=yN oj X.k.size
       clear Q X xn xo
       rw [if_pos (by rfl)];unfold Oper.wp;go_simp
       exact ⟨upd f 10 (.slice (some (yq V 0)) 1 1),by simp [upd,g9],aR (rx_grow (cZ hRS) (U xz) (eD _ _)) 10 _ (by decide) (fun _=>rfl) (bV (d:=2) rfl ⟨eRow_one V ⟨6,zCm,ii,0,o.left,0,0⟩ jb,_,_,rfl⟩)⟩
      | 11,Z =>
       obtain rfl:=ya Z
       obtain ⟨v4,g0,⟨a4,c4,rfl⟩,-⟩:=cx_sp (d:=1) (X.c 5 (ye Q 5 rfl)) rfl
       obtain ⟨y0,z0,q0⟩:=ze X.t (j:=0) (by omega)
       obtain ⟨y1,z1,q1⟩:=ze X.t (j:=1) (by omega)
       clear Q X xn xo
       rw [if_pos (by rfl)];unfold Oper.wp;go_simp
       have qy:=rx_store (cZ hRS) (U xz) xy (by simp [g0,aggL]) (fun _ _=>bV (d:=9) rfl trivial)
       simp only [g0,aggL] at qy
       exact ⟨f,by simp [g0],qy⟩
      | 12,Z =>
       obtain rfl:=ya Z
       have h8:=cx_sp (d:=2) (X.c 10 (ye Q 10 rfl)) rfl
       obtain ⟨a8,c8,g8⟩:=h8.2
       rw [g8] at h8
       have H8:=Y h8
       clear h8
       clear Q X xn xo
       rw [if_pos (by rfl)];unfold Oper.wp;go_simp
       exact ⟨upd f 12 (f 10),by simp [upd,g8],aR (U xz) 12 _ (by decide) (fun _=>rfl) (bV (d:=2) rfl (by rw [g8]; exact U H8))⟩
      | n + 13,Z=>simp at Z
    ·rintro x xm V ⟨f,rfl,X⟩ hx xP
     have xp:=zR xP hx (by kernel_rfl)
     obtain ⟨hE8,a8,c8,e8⟩:=cx_sp (d:=2) (X.c 12 (xp 12 (by simp))) rfl
     have vO:=X.r (xp 11 (by simp))
     obtain ⟨v4,g5,-,aK⟩:=cx_sp (d:=1) (X.c 5 (xp 5 (by simp))) rfl
     simp only [g5,aggL] at vO
     clear g5
     have HO:Hid (ORow V w.heap.size v4 _∧ERow V w.heap.size (.slice a8 _ c8) _):=⟨zH aK (by omega),zH (e8 ▸ hE8) (by omega)⟩
     have xv:Hid (yn w V):=⟨X.k.os.trans (U xM).os,X.k.tape.trans (U xM).tape,X.k.output.trans (U xM).output,yN (U xM).size X.k.size,fun k hk=>(X.k.block k (yJ hk (U xM).size) (by omega)).trans ((U xM).block k hk)⟩
     have d0:V.cell? (J (w.heap.size + 1 + 1) 0) = some (H next):=vO 0 _ rfl
     have d1:V.cell? (J (w.heap.size + 1 + 1) 1) = some v4:=vO 1 _ rfl
     simp only [e8]
     generalize f 0 = w0,f 1 = w1,f 2 = w2,f 3 = w3,f 4 = w4,f 5 = w5,f 6 = w6,f 7 = w7,f 8 = w8,f 9 = w9,f 10 = pz
     clear X xp xP hx vO hE8 aK
     go_wp2_with fail
     try simp only [Exit.inBlock,Exit.then]
     refine bodyPost_ret (by simp [results,Tryz.results44,go_sem,d0,d1]; try rfl) rfl ?_
     obtain ⟨rfl,rfl⟩:=U uK
     exact ⟨_,_,rfl,(U HO).1,(U HO).2,U xv⟩
   ·exact absurd (U uB).2 (by decide)
   ·exact absurd (U uB).2 (by decide)
  ·have oa:=vf
   have qM:(rr == 0) = false:=by rw [xd]; exact vf
   have uK:Hid (sN = next∧sL = l∧sE = [⟨2,⟨kk,s,ty,li,O,ii,pr,cutB L⟩,0,0,0,0,rr⟩]):=⟨by rw [U vj,if_neg (fun h=>vf h.1)],by rw [U uE,if_neg vf],by rw [U vi,if_neg vf]⟩
   skip
   exact absurd (U uB).1 oa
 rcases U vP with hs | ⟨ad,nn,cc,hs⟩
 ·simp only [Value.slice.injEq] at hs
  obtain ⟨rfl,pS,rfl⟩:=hs
  obtain rfl:=List.length_eq_zero_iff.1 pS
  obtain ⟨z0,z1,y0,y1,y2,y3,y4,y5,y6,y7⟩:=U xK hR (Below.refl _ _)
  have vI:=Y (World.ownsRow_made (base:=hR.heap.size) (e:=49) (size:=6) hR #[] 0 qt (by decide) rfl)
  have hzX:World.cell? (hR.alloc (eF #[] 49)) (yq w 1) = some (.slice none 0 0):=(U xK _ (eD _ _)).2.1
  have kQ:=Y HT
  clear HT hK
  go_wp2_with (at_builtin; go_must (refine wpList_append_own_none rfl _ _ 26 rfl hR.heap.size 49 i0 6 Tryz.underlying26 uH (.slice (some (yq hR 0)) 0 0) 0 [] rfl (U vI) rfl ?_))
  exact U kQ _ _ _ (U vI) (eD _ _)
 ·simp only [Value.slice.injEq] at hs
  obtain ⟨rfl,rfl,rfl⟩:=hs
  obtain ⟨z0,z1,y0,y1,y2,y3,y4,y5,y6,y7⟩:=U xK hR (Below.refl _ _)
  have uN:Hid (yn hR (hR.alloc (eF #[] 49))):=eD _ _
  have vI:=Y (World.ownsRow_made (base:=hR.heap.size) (e:=49) (size:=6) hR #[] 0 qt (by decide) rfl)
  have hzX:World.cell? (hR.alloc (eF #[] 49)) (yq w 1) = some (.slice (some ad) l.length A):=(U xK _ (U uN)).2.1
  have uZ:Hid (∀ j u,(l.flatMap Od.vs)[j]? = some u→World.cell? (hR.alloc (eF #[] 49)) (ad.add j) = some u):=rd_src (zn (U HR) ((U HB).2.2.2.2.2.trans ((U uN).mono (U HB).2.2.2.2.2.size)) qt)
  have kQ:=Y HT
  clear HT hK
  go_wp2_with (at_builtin; go_must (refine wpList_append_own _ rfl _ _ 26 rfl hR.heap.size 49 i0 _ 6 56 Tryz.underlying26 uH uF uJ uQ rfl (by decide) (.slice (some (yq hR 0)) 0 0) 0 [] rfl (U vI) ad l.length A (l.flatMap Od.vs) rfl (by rw [zK Od.len]) (U uZ) (bE l) (by unfold maxLen; omega) (by omega) (U uN).size ?_); intro v1 w1 uY qq _; have vp:=Y uY; have kA:=Y qq; clear uY qq)
  have aB:Hid (ORow w1 hR.heap.size v1 l):=by
   show w1.ownsRow _ _ _ _ l.length _
   simpa using U vp
  obtain ⟨a6,c6,hv⟩:=zT (U aB)
  subst hv
  exact U kQ _ _ _ (U aB) ((U uN).grown (U kA) (U uN).size (fun k hk=>((U vI).lt k hk).1))
end Go.Proofs.YtbakanofkghmiaaGreat
