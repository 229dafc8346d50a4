/-
  A command done on a book, by the model: proved by walking the function.
-/
import Derived.Test.YthhkapcbocgcoaaGreatDoorGj45
set_option linter.unusedVariables false
set_option maxHeartbeats 6400000
set_option maxRecDepth 100000
namespace Go.Proofs.YthhkapcbocgcoaaGreatDoor
open Go.RowKit
theorem l04Step_c (next:Int) (vb:Value) (l:List Od) (c:Cm) (w:World) (jh:refR next l c = 0∧c.k = 2) (hr:RdR Od.vs 6 w vb l) (hs:SlOk vb) (hg:GoodL l) (ui:∀ x ∈ l,x.side = 1 ∨ x.side = 2) (h0:0 ≤ next) (Q:next ≤ 1000000) (ht:c.g.size ≤ maxLen) :
  Calls Tryz.prog 16 #[.agg #[H next,vb],cmV c] w fun e w'=>∃ vq vg,e = ym (.tuple #[.agg #[H (stN next l c),vq],vg])∧ORow w' w.heap.size vq (stL next l c)∧ERow w' w.heap.size vg (stE next l c)∧yn w w':=by
 obtain ⟨i0,uJ,uD,uz,uM⟩:=info_parts Tryz.infoOrder
 obtain ⟨j0,jM,bh,hy1,hy2⟩:=info_parts infoEv
 have HR:=M hr
 have qn:=M hs
 have HG:=M hg
 have ky:=M ht
 have ju:=hg.len
 have uO:Hid (0 ≤ next∧next ≤ 1000000):=⟨h0,Q⟩
 have uL:=M (fun (W:World) hW=>fO next vb l c W hW hs hg ui ht)
 rw [ref_eq] at uL
 have HK:=M (@fK next l c)
 have HQ:=M (@fg next l c)
 have kK:=M (@ref_id next l c)
 have jR:=M (@ref_newS next l c)
 have uy:=M jh
 clear jh
 have vW:Hid (stN next l c = if refR next l c = 0∧c.k = 1 then next + 1 else next):=rfl
 have uA:=M (stL.eq_1 next l c)
 have vO:=M (stE.eq_1 next l c)
 have kZ:=M (fun W=>fN c W ht)
 have ja:=M (fun (a:Option Addr) (n cap:Nat) (W:World)=>fx next a n cap c W)
 have kw:=M (fun (v:Value) (W:World) hr hs hp jO jl=>fw v l c next W hr hg hs hp jO jl)
 obtain ⟨a,cap,rfl,jg,hc⟩:=hr
 obtain ⟨kk,s,ty,li,qt,ii,pr,tg⟩:=c
 generalize stN next l ⟨kk,s,ty,li,qt,ii,pr,tg⟩ = sN at vW ⊢
 generalize stL next l ⟨kk,s,ty,li,qt,ii,pr,tg⟩ = sL at uA ⊢
 generalize stE next l ⟨kk,s,ty,li,qt,ii,pr,tg⟩ = sE at vO ⊢
 generalize refR next l ⟨kk,s,ty,li,qt,ii,pr,tg⟩ = rr at uL vW uA vO HK HQ kK jR uy
 unfold cmV at uL ja ⊢
 simp only at uL vW uA vO HK HQ kK jR kZ ja kw ky uy ⊢
 have HB:=M (box3 w [H next,.slice a l.length cap] (yx kk s ty li qt ii pr tg) [H 0,.slice none 0 0] 27 33 27)
 clear hs hg ui h0 Q ht hc jg
 go_enter Tryz.func16,Tryz.ntmps16
 refine ic fun xh xK=>?_
 go_wp2_with fail
 refine U xK _ _ ?_
 clear xK
 change Hid ((((w.alloc (O #[H next,.slice a l.length cap] 27)).alloc (O (yx kk s ty li qt ii pr tg).toArray 33)).alloc (O #[H 0,.slice none 0 0] 27)).heap.size = w.heap.size + 3∧World.rangeAt (((w.alloc (O #[H next,.slice a l.length cap] 27)).alloc (O (yx kk s ty li qt ii pr tg).toArray 33)).alloc (O #[H 0,.slice none 0 0] 27)) w.heap.size 0 [H next,.slice a l.length cap]∧World.rangeAt (((w.alloc (O #[H next,.slice a l.length cap] 27)).alloc (O (yx kk s ty li qt ii pr tg).toArray 33)).alloc (O #[H 0,.slice none 0 0] 27)) (w.heap.size + 1) 0 (yx kk s ty li qt ii pr tg)∧World.rangeAt (((w.alloc (O #[H next,.slice a l.length cap] 27)).alloc (O (yx kk s ty li qt ii pr tg).toArray 33)).alloc (O #[H 0,.slice none 0 0] 27)) (w.heap.size + 1 + 1) 0 [H 0,.slice none 0 0]∧World.there (((w.alloc (O #[H next,.slice a l.length cap] 27)).alloc (O (yx kk s ty li qt ii pr tg).toArray 33)).alloc (O #[H 0,.slice none 0 0] 27)) (w.heap.size + 1 + 1) 0 2∧yn w (((w.alloc (O #[H next,.slice a l.length cap] 27)).alloc (O (yx kk s ty li qt ii pr tg).toArray 33)).alloc (O #[H 0,.slice none 0 0] 27))) at HB
 generalize (((w.alloc (O #[H next,.slice a l.length cap] 27)).alloc (O (yx kk s ty li qt ii pr tg).toArray 33)).alloc (O #[H 0,.slice none 0 0] 27)) = h3 at HB ⊢
 have xL:Hid (∀ W:World,yn h3 W→W.cell? (yq w 0) = some (H next)∧W.cell? (yq w 1) = some (.slice a l.length cap)∧W.cell? (J (w.heap.size + 1) 0) = some (H kk)∧W.cell? (J (w.heap.size + 1) 1) = some (H s)∧W.cell? (J (w.heap.size + 1) 2) = some (H ty)∧W.cell? (J (w.heap.size + 1) 3) = some (H li)∧W.cell? (J (w.heap.size + 1) 4) = some (H qt)∧W.cell? (J (w.heap.size + 1) 5) = some (H ii)∧W.cell? (J (w.heap.size + 1) 6) = some (yj pr)∧W.cell? (J (w.heap.size + 1) 7) = some (yk tg)):=fun W hW =>
  have p:=zc (U HB).2.1 hW (by have:=(U HB).1; omega)
  have q:=zc (U HB).2.2.1 hW (by have:=(U HB).1; omega)
  ⟨p 0 _ rfl,p 1 _ rfl,q 0 _ rfl,q 1 _ rfl,q 2 _ rfl,q 3 _ rfl,q 4 _ rfl,q 5 _ rfl,q 6 _ rfl,q 7 _ rfl⟩
 have vL:w.heap.size + 1 + 1 < h3.heap.size:=by have:=(U HB).1; omega
 refine wp_seq_k fun xh hK=>?_
 have HT:∀ (a6:Option Addr) (c6:Nat) (w1:World),ORow w1 h3.heap.size (.slice a6 l.length c6) l→yn h3 w1→xh { tmps:=#[.agg #[H next,.slice a l.length cap],.agg (yx kk s ty li qt ii pr tg).toArray,yp w 0,I (w.heap.size + 1) 0,I (w.heap.size + 1 + 1) 0,.slice none 0 0,.slice a6 l.length c6,Z,Z,Z,Z,Z,Z,Z,Z,Z,Z,Z,.slice (some (yq h3 0)) 0 0,yp w 1,.slice a l.length cap,.slice a6 l.length c6,Z,Z,Z,Z,Z,Z,Z,Z,Z,Z,Z,Z,Z,Z,Z,Z,Z,Z,Z,Z,Z,Z,Z,Z,Z,Z,Z,Z,Z,Z,Z,Z,Z,Z,Z,Z,Z,Z,Z,Z,Z,Z,Z,Z,Z,Z,Z,Z,Z,Z,Z,Z,Z,Z,Z,Z,Z,Z,Z,Z,Z,Z,Z,Z,Z,Z,Z,Z,Z,Z,Z,Z,Z,Z,Z,Z,Z,Z,Z,Z,Z,Z,Z,Z,Z,Z,Z,Z,Z,Z,Z,Z,Z,Z,Z,Z,Z,Z,Z,Z,Z,Z,Z,Z,Z,Z,Z,Z,Z,Z,Z,Z,Z,Z,Z,Z,Z,Z,Z,Z,Z,Z,Z,Z,Z,Z,Z,Z,Z,Z,Z,Z,Z,Z,Z,Z,Z,Z,Z,Z,Z,Z,Z,Z,Z,Z,Z,Z,Z],defers:=[] } w1:=by
  intro a6 c6 w1 qA ub
  refine hK _ _ ?_
  clear hK
  have vv:=M qA
  have xU:=M ub
  clear qA ub
  obtain ⟨z0,z1,y0,y1,y2,y3,y4,y5,y6,y7⟩:=U xL w1 (U xU)
  refine ic fun xh xK=>?_
  go_wp2_with fail
  refine (U uL w1 (zh (U HR) ((U HB).2.2.2.2.2.trans ((U xU).mono (U HB).2.2.2.2.2.size)) hU)).mono ?_
  rintro e w2 ⟨rfl,xP⟩
  have qy:=M (zp (U vv) xP)
  have xt:=M (ia (U xU) xP)
  clear z0 z1 y0 y1 y2 y3 y4 y5 y6 y7 xP vv
  obtain ⟨z0,z1,y0,y1,y2,y3,y4,y5,y6,y7⟩:=U xL w2 (U xt)
  have qd:=M (zk (U HB).2.2.2.2.1 (U xt) vL)
  have pm:w.heap.size + 1 + 1 < w2.heap.size:=yK vL (U xt).size
  have xI:=M ((U HB).2.2.2.2.2.trans ((U xt).mono (U HB).2.2.2.2.2.size))
  have hXw:w.heap.size ≤ h3.heap.size:=by omega
  have pK:h3.heap.size ≤ w2.heap.size:=(U xt).size
  have oP:=pK
  by_cases vE:rr = 0
  ·subst vE
   have hkk:=U HK rfl
   rcases hkk with rfl | rfl | rfl | rfl
   ·exact absurd (U uy).2 (by decide)
   ·obtain ⟨k,o,hpk,aU⟩:=U kK rfl (by simp)
    have pR:(plc l ii).toNat = k:=by rw [hpk]; rfl
    have xC:l ≠ []:=by rintro rfl; simp at aU
    have pP:=(yH.1 aU).1
    have vH:Hid (sN = next∧sE = [⟨6,zCm,ii,0,o.left,0,0⟩]):=⟨by rw [U vW,if_neg (fun h=>by have:=h.2; omega)],by rw [U vO,if_pos rfl,if_neg (by omega),if_pos rfl]; simp only [pR,aU]⟩
    have HLD:Hid (l.take k ++ l.drop (k + 1) = sL):=by show _ = _; rw [U uA,if_pos rfl,if_neg (by omega),if_pos rfl]; simp only [pR,aU]; rw [bQ,if_pos rfl]
    have HPK:=M hpk
    have HLO:=M aU
    clear hpk aU pR vW uA vO HQ kK HK jR ja kw kZ
    obtain ⟨g,cp,hv6,uq,hBg,hgw⟩:=fE (U qy) xC
    simp only [Value.slice.injEq] at hv6
    obtain ⟨rfl,-,rfl⟩:=hv6
    go_wp2_with fail
    refine U xK _ _ ?_
    clear xK
    go_wp2_with fail
    refine (fC _ l ii w2 (zV (U qy) (by omega))).mono ?_
    rw [U HPK]
    rintro e w3 ⟨rfl,xQ⟩
    have qW:=M (zp (U qy) xQ)
    have xG:=M (ia (U xt) xQ)
    clear xQ z0 z1 y0 y1 y2 y3 y4 y5 y6 y7 qd xI pm oP
    have qd:=M (zk (U HB).2.2.2.2.1 (U xG) vL)
    have pm:w.heap.size + 1 + 1 < w3.heap.size:=yK vL (U xG).size
    have xI:=M ((U HB).2.2.2.2.2.trans ((U xG).mono (U HB).2.2.2.2.2.size))
    have oP:h3.heap.size ≤ w3.heap.size:=(U xG).size
    obtain ⟨z0,z1,y0,y1,y2,y3,y4,y5,y6,y7⟩:=U xL w3 (U xG)
    have ur:=fh (U qW) (by omega) (U HLO)
    have hkl':(k:Int) < l.length:=by omega
    have oG:(0:Int) ≤ k:=by omega
    have hgR:g ≠ w.heap.size + 1 + 1:=by omega
    have hRS:w.heap.size + 1 + 1 < h3.heap.size:=vL
    have HZ0:=M z0
    have jI:=M z1
    have HY0:=M y0
    have HY1:=M y1
    have jj:=M y2
    have HY3:=M y3
    have qu:=M y4
    have HY5:=M y5
    have kA:=M y6
    have jc:=M y7
    have hG3:w3.cell? (J g (k * 6 + 3)) = some (H o.left):=ur.1 3 _ rfl
    clear ur
    go_wp2_with fail
    clear z0 z1 y0 y1 y2 y3 y4 y5 y6 y7 hG3
    refine zn (RXA (fun f=>{ tmps:=#[.agg #[H next,.slice a l.length cap],.agg (yx 2 s ty li qt ii pr tg).toArray,yp w 0,I (w.heap.size + 1) 0,I (w.heap.size + 1 + 1) 0,f 12,.slice (some (J g 0)) l.length c6,H 0,H k,H o.left,Z,Z,Z,Z,Z,Z,Z,Z,.slice (some (yq h3 0)) 0 0,yp w 1,.slice a l.length cap,.slice (some (J g 0)) l.length c6,.agg #[H next,.slice a l.length cap],.agg (yx 2 s ty li qt ii pr tg).toArray,H 0,H 0,.bool false,Z,Z,Z,Z,Z,Z,Z,Z,Z,.slice (some (J g 0)) l.length c6,I (w.heap.size + 1) 5,H ii,H k,I (w.heap.size + 1) 0,H 2,.bool true,.bool true,.slice (some (J g 0)) l.length c6,H k,I g (k * 6),I g (k * 6 + 3),H o.left,f 0,f 1,f 2,f 3,f 4,f 5,f 6,f 7,f 8,f 9,f 10,Z,Z,Z,Z,Z,Z,Z,Z,Z,Z,Z,Z,Z,Z,Z,Z,Z,Z,Z,Z,Z,Z,Z,Z,Z,Z,Z,Z,Z,Z,Z,Z,Z,Z,Z,Z,Z,Z,Z,Z,Z,Z,Z,Z,Z,Z,Z,Z,Z,Z,Z,Z,Z,Z,Z,Z,Z,Z,Z,Z,Z,Z,Z,Z,Z,Z,Z,Z,Z,Z,Z,Z,Z,Z,Z,Z,Z,Z,Z,Z,Z,Z,Z,Z,Z,Z,Z,Z,Z,Z,Z,Z,Z,Z,Z,Z,Z,Z,Z,Z,Z,Z,Z,Z,Z,Z,Z,Z,Z,Z,Z],defers:=[] }) (CX [yp w 0,H next,.slice (some (J g 0)) l.length c6,H k,Z,Z,I (w.heap.size + 1) 5,H ii,H o.left,.agg (yv 6 0 0 0 0 0 0 0 ⟨#[]⟩ ii 0 o.left 0 0).toArray,Z,Z,Z] [(4,0),(5,1),(10,2),(11,9),(12,2)] (h3.heap.size) (next) (sL) ([⟨6,zCm,ii,0,o.left,0,0⟩])) (w.heap.size + 1 + 1) 2 11 (fun f=>aggL (f 5)) w3) (by kernel_rfl) ?_ ?_ ?_
    ·exact ⟨fun j=>if j = 12 then .slice none 0 0 else Z,rfl,rx_start pm (U qd)⟩
    rotate_left
    ·rintro x hb V i op ⟨f,rfl,F⟩ xo hx Y xu K
     have xA:=M F
     have xj:∀ (p:Addr) u,w3.cell? p = some u→p.block ≠ w.heap.size + 1 + 1→V.cell? p = some u:=fun p u hu hp=>kb_cell F.k hu hp
     match i,Y with
      | 0,Y =>
       obtain rfl:=ya Y
       clear K F xj xo
       rw [if_pos (by rfl)];unfold Oper.wp;go_simp
       exact ⟨upd f 0 (yp w 0),by simp [upd],bW (U xA) 0 _ (by decide) (fun _=>rfl) (zT rfl rfl)⟩
      | 1,Y =>
       obtain rfl:=ya Y
       have g0:f 0 = yp w 0:=zP (F.c 0 (ye K 0 rfl)) rfl rfl
       have z0:=xj (yq w 0) _ (U HZ0) (show w.heap.size ≠ w.heap.size + 1 + 1 by omega)
       clear K F xj xo
       rw [if_pos (by rfl)];unfold Oper.wp;go_simp
       exact ⟨upd f 1 (H next),by simp [upd,g0],bW (U xA) 1 _ (by decide) (fun _=>rfl) (zT rfl rfl)⟩
      | 2,Y =>
       obtain rfl:=ya Y
       clear K F xj xo
       rw [if_pos (by rfl)];unfold Oper.wp;go_simp
       exact ⟨upd f 2 (.slice (some (J g 0)) l.length c6),by simp [upd],bW (U xA) 2 _ (by decide) (fun _=>rfl) (zT rfl rfl)⟩
      | 3,Y =>
       obtain rfl:=ya Y
       clear K F xj xo
       rw [if_pos (by rfl)];unfold Oper.wp;go_simp
       exact ⟨upd f 3 (H k),by simp [upd],bW (U xA) 3 _ (by decide) (fun _=>rfl) (zT rfl rfl)⟩
      | 4,Y =>
       obtain rfl:=ya Y
       have g2:f 2 = .slice (some (J g 0)) l.length c6:=zP (F.c 2 (ye K 2 rfl)) rfl rfl
       have g3:f 3 = H k:=zP (F.c 3 (ye K 3 rfl)) rfl rfl
       have hOV:=kb_row (U qW) F.k hRS
       have HCV:Hid (∀ j c,l[j]? = some c→V.rangeAt g (0 + j * 6) c.vs):=fun j c hj=>by have:=(fh hOV (by omega) hj).1; rw [Nat.zero_add]; exact this
       have hgV:g < V.heap.size:=yK ((U qW).lt g rfl).2 F.k.size
       have hXV:=yO oP F.k.size
       clear K F xj xo hOV
       rw [if_pos (by rfl)];unfold Oper.wp;go_simp
       refine (l04Drop_any g 0 c6 l k V (U HCV) hgV pP uq (by omega)).mono ?_
       rw [U HLD]
       rintro e w4 ⟨v',rfl,vu,xy⟩
       exact ⟨upd f 4 v',by simp [upd,g2,g3],bW (rx_grow (eL hRS) (U xA) xy) 4 _ (by decide) (fun _=>rfl) (dM (d:=0) rfl ⟨zR vu hXV,cT vu⟩)⟩
      | 5,Y =>
       obtain rfl:=ya Y
       have g1:f 1 = H next:=zP (F.c 1 (ye K 1 rfl)) rfl rfl
       have h4:=cx_sp (d:=0) (F.c 4 (ye K 4 rfl)) rfl
       obtain ⟨a4,c4,g4⟩:=h4.2
       rw [g4] at h4
       have H4:=M h4
       have hcl0:=xo
       clear K F xj xo h4
       rw [if_pos (by rfl)];unfold Oper.wp;go_simp
       exact ⟨upd f 5 (.agg #[H next,.slice a4 sL.length c4]),by simp [upd,g1,g4],bW (U xA) 5 _ (by decide) (fun h=>by rw [ch hcl0 12 5 11 (by kernel_rfl) hx (by simp) xu] at h; cases h) (dM (d:=1) rfl ⟨_,rfl,⟨_,_,rfl⟩,(U H4).1⟩)⟩
      | 6,Y =>
       obtain rfl:=ya Y
       clear K F xj xo
       rw [if_pos (by rfl)];unfold Oper.wp;go_simp
       exact ⟨upd f 6 (I (w.heap.size + 1) 5),by simp [upd],bW (U xA) 6 _ (by decide) (fun _=>rfl) (zT rfl rfl)⟩
      | 7,Y =>
       obtain rfl:=ya Y
       have g6:f 6 = I (w.heap.size + 1) 5:=zP (F.c 6 (ye K 6 rfl)) rfl rfl
       have y5:=xj (J (w.heap.size + 1) 5) _ (U HY5) (show w.heap.size + 1 ≠ w.heap.size + 1 + 1 by omega)
       clear K F xj xo
       rw [if_pos (by rfl)];unfold Oper.wp;go_simp
       exact ⟨upd f 7 (H ii),by simp [upd,g6],bW (U xA) 7 _ (by decide) (fun _=>rfl) (zT rfl rfl)⟩
      | 8,Y =>
       obtain rfl:=ya Y
       clear K F xj xo
       rw [if_pos (by rfl)];unfold Oper.wp;go_simp
       exact ⟨upd f 8 (H o.left),by simp [upd],bW (U xA) 8 _ (by decide) (fun _=>rfl) (zT rfl rfl)⟩
      | 9,Y =>
       obtain rfl:=ya Y
       have g7:f 7 = H ii:=zP (F.c 7 (ye K 7 rfl)) rfl rfl
       have g8:f 8 = H o.left:=zP (F.c 8 (ye K 8 rfl)) rfl rfl
       clear K F xj xo
       rw [if_pos (by rfl)];unfold Oper.wp;go_simp
       exact ⟨upd f 9 (.agg (yv 6 0 0 0 0 0 0 0 ⟨#[]⟩ ii 0 o.left 0 0).toArray),by simp [upd,g7,g8],bW (U xA) 9 _ (by decide) (fun _=>rfl) (zT rfl rfl)⟩
      | 10,Y =>
       obtain rfl:=ya Y
       have g9:f 9 = .agg (yv 6 0 0 0 0 0 0 0 ⟨#[]⟩ ii 0 o.left 0 0).toArray:=zP (F.c 9 (ye K 9 rfl)) rfl rfl
       have aZ:=yO oP F.k.size
       clear K F xj xo
       rw [if_pos (by rfl)];unfold Oper.wp;go_simp
       exact ⟨upd f 10 (.slice (some (yq V 0)) 1 1),by simp [upd,g9],bW (rx_grow (eL hRS) (U xA) (gZ _ _)) 10 _ (by decide) (fun _=>rfl) (dM (d:=2) rfl ⟨eRow_one V ⟨6,zCm,ii,0,o.left,0,0⟩ aZ,_,_,rfl⟩)⟩
      | 11,Y =>
       obtain rfl:=ya Y
       obtain ⟨v4,g0,⟨a4,c4,rfl⟩,-⟩:=cx_sp (d:=1) (F.c 5 (ye K 5 rfl)) rfl
       obtain ⟨y0,z0,q0⟩:=zg F.t (j:=0) (by omega)
       obtain ⟨y1,z1,q1⟩:=zg F.t (j:=1) (by omega)
       clear K F xj xo
       rw [if_pos (by rfl)];unfold Oper.wp;go_simp
       have vd:=rx_store (eL hRS) (U xA) xu (by simp [g0,aggL]) (fun _ _=>dM (d:=9) rfl trivial)
       simp only [g0,aggL] at vd
       exact ⟨f,by simp [g0],vd⟩
      | 12,Y =>
       obtain rfl:=ya Y
       have h8:=cx_sp (d:=2) (F.c 10 (ye K 10 rfl)) rfl
       obtain ⟨a8,c8,g8⟩:=h8.2
       rw [g8] at h8
       have H8:=M h8
       clear h8
       clear K F xj xo
       rw [if_pos (by rfl)];unfold Oper.wp;go_simp
       exact ⟨upd f 12 (f 10),by simp [upd,g8],bW (U xA) 12 _ (by decide) (fun _=>rfl) (dM (d:=2) rfl (by rw [g8]; exact U H8))⟩
      | n + 13,Y=>simp at Y
    ·rintro x hb V ⟨f,rfl,F⟩ hx xN
     have xp:=zY xN hx (by kernel_rfl)
     obtain ⟨hE8,a8,c8,e8⟩:=cx_sp (d:=2) (F.c 12 (xp 12 (by simp))) rfl
     have vN:=F.r (xp 11 (by simp))
     obtain ⟨v4,g5,-,pv⟩:=cx_sp (d:=1) (F.c 5 (xp 5 (by simp))) rfl
     simp only [g5,aggL] at vN
     clear g5
     have HO:Hid (ORow V w.heap.size v4 _∧ERow V w.heap.size (.slice a8 _ c8) _):=⟨zR pv (by omega),zR (e8 ▸ hE8) (by omega)⟩
     have xw:Hid (yn w V):=⟨F.k.os.trans (U xI).os,F.k.tape.trans (U xI).tape,F.k.output.trans (U xI).output,yO (U xI).size F.k.size,fun k E=>(F.k.block k (yK E (U xI).size) (by omega)).trans ((U xI).block k E)⟩
     have d0:V.cell? (J (w.heap.size + 1 + 1) 0) = some (H next):=vN 0 _ rfl
     have d1:V.cell? (J (w.heap.size + 1 + 1) 1) = some v4:=vN 1 _ rfl
     simp only [e8]
     generalize f 0 = w0,f 1 = w1,f 2 = w2,f 3 = w3,f 4 = w4,f 5 = w5,f 6 = w6,f 7 = w7,f 8 = w8,f 9 = w9,f 10 = w10
     clear F xp xN hx vN hE8 pv
     go_wp2_with fail
     try simp only [Exit.inBlock,Exit.then]
     refine bodyPost_ret (by simp [results,Tryz.results16,go_sem,d0,d1]; try rfl) rfl ?_
     obtain ⟨rfl,rfl⟩:=U vH
     exact ⟨_,_,rfl,(U HO).1,(U HO).2,U xw⟩
   ·exact absurd (U uy).2 (by decide)
   ·exact absurd (U uy).2 (by decide)
  ·have oJ:=vE
   have jP:(rr == 0) = false:=by rw [xe]; exact vE
   have vH:Hid (sN = next∧sL = l∧sE = [⟨2,⟨kk,s,ty,li,qt,ii,pr,cutB tg⟩,0,0,0,0,rr⟩]):=⟨by rw [U vW,if_neg (fun h=>vE h.1)],by rw [U uA,if_neg vE],by rw [U vO,if_neg vE]⟩
   skip
   exact absurd (U uy).1 oJ
 rcases U qn with hs | ⟨ad,nn,cc,hs⟩
 ·simp only [Value.slice.injEq] at hs
  obtain ⟨rfl,jk,rfl⟩:=hs
  obtain rfl:=List.length_eq_zero_iff.1 jk
  obtain ⟨z0,z1,y0,y1,y2,y3,y4,y5,y6,y7⟩:=U xL h3 (Below.refl _ _)
  have vY:=M (World.ownsRow_made (base:=h3.heap.size) (e:=65) (size:=6) h3 #[] 0 hU (by decide) rfl)
  have hzX:World.cell? (h3.alloc (O #[] 65)) (yq w 1) = some (.slice none 0 0):=(U xL _ (gZ _ _)).2.1
  have ow:=M HT
  clear HT hK
  go_wp2_with (at_builtin; go_must (refine wpList_append_own_none rfl _ _ 25 rfl h3.heap.size 65 i0 6 Tryz.underlying25 uJ (.slice (some (yq h3 0)) 0 0) 0 [] rfl (U vY) rfl ?_))
  exact U ow _ _ _ (U vY) (gZ _ _)
 ·simp only [Value.slice.injEq] at hs
  obtain ⟨rfl,rfl,rfl⟩:=hs
  obtain ⟨z0,z1,y0,y1,y2,y3,y4,y5,y6,y7⟩:=U xL h3 (Below.refl _ _)
  have uK:Hid (yn h3 (h3.alloc (O #[] 65))):=gZ _ _
  have vY:=M (World.ownsRow_made (base:=h3.heap.size) (e:=65) (size:=6) h3 #[] 0 hU (by decide) rfl)
  have hzX:World.cell? (h3.alloc (O #[] 65)) (yq w 1) = some (.slice (some ad) l.length cap):=(U xL _ (U uK)).2.1
  have vf:Hid (∀ j u,(l.flatMap Od.vs)[j]? = some u→World.cell? (h3.alloc (O #[] 65)) (ad.add j) = some u):=rd_src (zh (U HR) ((U HB).2.2.2.2.2.trans ((U uK).mono (U HB).2.2.2.2.2.size)) hU)
  have ow:=M HT
  clear HT hK
  go_wp2_with (at_builtin; go_must (refine wpList_append_own _ rfl _ _ 25 rfl h3.heap.size 65 i0 _ 6 56 Tryz.underlying25 uJ uD uz uM rfl (by decide) (.slice (some (yq h3 0)) 0 0) 0 [] rfl (U vY) ad l.length cap (l.flatMap Od.vs) rfl (by rw [zL Od.len]) (U vf) (dj l) (by unfold maxLen; omega) (by omega) (U uK).size ?_); intro v1 w1 uW je _; have vv:=M uW; have oN:=M je; clear uW je)
  have bz:Hid (ORow w1 h3.heap.size v1 l):=by
   show w1.ownsRow _ _ _ _ l.length _
   simpa using U vv
  obtain ⟨a6,c6,hv⟩:=cT (U bz)
  subst hv
  exact U ow _ _ _ (U bz) ((U uK).grown (U oN) (U uK).size (fun k E=>((U vY).lt k E).1))
theorem l04Step_d (next:Int) (vb:Value) (l:List Od) (c:Cm) (w:World) (jh:refR next l c = 0∧c.k = 3) (hr:RdR Od.vs 6 w vb l) (hs:SlOk vb) (hg:GoodL l) (ui:∀ x ∈ l,x.side = 1 ∨ x.side = 2) (h0:0 ≤ next) (Q:next ≤ 1000000) (ht:c.g.size ≤ maxLen) :
  Calls Tryz.prog 16 #[.agg #[H next,vb],cmV c] w fun e w'=>∃ vq vg,e = ym (.tuple #[.agg #[H (stN next l c),vq],vg])∧ORow w' w.heap.size vq (stL next l c)∧ERow w' w.heap.size vg (stE next l c)∧yn w w':=by
 obtain ⟨i0,uJ,uD,uz,uM⟩:=info_parts Tryz.infoOrder
 obtain ⟨j0,jM,bh,hy1,hy2⟩:=info_parts infoEv
 have HR:=M hr
 have qn:=M hs
 have HG:=M hg
 have ky:=M ht
 have ju:=hg.len
 have uO:Hid (0 ≤ next∧next ≤ 1000000):=⟨h0,Q⟩
 have uL:=M (fun (W:World) hW=>fO next vb l c W hW hs hg ui ht)
 rw [ref_eq] at uL
 have HK:=M (@fK next l c)
 have HQ:=M (@fg next l c)
 have kK:=M (@ref_id next l c)
 have jR:=M (@ref_newS next l c)
 have uy:=M jh
 clear jh
 have vW:Hid (stN next l c = if refR next l c = 0∧c.k = 1 then next + 1 else next):=rfl
 have uA:=M (stL.eq_1 next l c)
 have vO:=M (stE.eq_1 next l c)
 have kZ:=M (fun W=>fN c W ht)
 have ja:=M (fun (a:Option Addr) (n cap:Nat) (W:World)=>fx next a n cap c W)
 have kw:=M (fun (v:Value) (W:World) hr hs hp jO jl=>fw v l c next W hr hg hs hp jO jl)
 obtain ⟨a,cap,rfl,jg,hc⟩:=hr
 obtain ⟨kk,s,ty,li,qt,ii,pr,tg⟩:=c
 generalize stN next l ⟨kk,s,ty,li,qt,ii,pr,tg⟩ = sN at vW ⊢
 generalize stL next l ⟨kk,s,ty,li,qt,ii,pr,tg⟩ = sL at uA ⊢
 generalize stE next l ⟨kk,s,ty,li,qt,ii,pr,tg⟩ = sE at vO ⊢
 generalize refR next l ⟨kk,s,ty,li,qt,ii,pr,tg⟩ = rr at uL vW uA vO HK HQ kK jR uy
 unfold cmV at uL ja ⊢
 simp only at uL vW uA vO HK HQ kK jR kZ ja kw ky uy ⊢
 have HB:=M (box3 w [H next,.slice a l.length cap] (yx kk s ty li qt ii pr tg) [H 0,.slice none 0 0] 27 33 27)
 clear hs hg ui h0 Q ht hc jg
 go_enter Tryz.func16,Tryz.ntmps16
 refine ic fun xh xK=>?_
 go_wp2_with fail
 refine U xK _ _ ?_
 clear xK
 change Hid ((((w.alloc (O #[H next,.slice a l.length cap] 27)).alloc (O (yx kk s ty li qt ii pr tg).toArray 33)).alloc (O #[H 0,.slice none 0 0] 27)).heap.size = w.heap.size + 3∧World.rangeAt (((w.alloc (O #[H next,.slice a l.length cap] 27)).alloc (O (yx kk s ty li qt ii pr tg).toArray 33)).alloc (O #[H 0,.slice none 0 0] 27)) w.heap.size 0 [H next,.slice a l.length cap]∧World.rangeAt (((w.alloc (O #[H next,.slice a l.length cap] 27)).alloc (O (yx kk s ty li qt ii pr tg).toArray 33)).alloc (O #[H 0,.slice none 0 0] 27)) (w.heap.size + 1) 0 (yx kk s ty li qt ii pr tg)∧World.rangeAt (((w.alloc (O #[H next,.slice a l.length cap] 27)).alloc (O (yx kk s ty li qt ii pr tg).toArray 33)).alloc (O #[H 0,.slice none 0 0] 27)) (w.heap.size + 1 + 1) 0 [H 0,.slice none 0 0]∧World.there (((w.alloc (O #[H next,.slice a l.length cap] 27)).alloc (O (yx kk s ty li qt ii pr tg).toArray 33)).alloc (O #[H 0,.slice none 0 0] 27)) (w.heap.size + 1 + 1) 0 2∧yn w (((w.alloc (O #[H next,.slice a l.length cap] 27)).alloc (O (yx kk s ty li qt ii pr tg).toArray 33)).alloc (O #[H 0,.slice none 0 0] 27))) at HB
 generalize (((w.alloc (O #[H next,.slice a l.length cap] 27)).alloc (O (yx kk s ty li qt ii pr tg).toArray 33)).alloc (O #[H 0,.slice none 0 0] 27)) = h3 at HB ⊢
 have xL:Hid (∀ W:World,yn h3 W→W.cell? (yq w 0) = some (H next)∧W.cell? (yq w 1) = some (.slice a l.length cap)∧W.cell? (J (w.heap.size + 1) 0) = some (H kk)∧W.cell? (J (w.heap.size + 1) 1) = some (H s)∧W.cell? (J (w.heap.size + 1) 2) = some (H ty)∧W.cell? (J (w.heap.size + 1) 3) = some (H li)∧W.cell? (J (w.heap.size + 1) 4) = some (H qt)∧W.cell? (J (w.heap.size + 1) 5) = some (H ii)∧W.cell? (J (w.heap.size + 1) 6) = some (yj pr)∧W.cell? (J (w.heap.size + 1) 7) = some (yk tg)):=fun W hW =>
  have p:=zc (U HB).2.1 hW (by have:=(U HB).1; omega)
  have q:=zc (U HB).2.2.1 hW (by have:=(U HB).1; omega)
  ⟨p 0 _ rfl,p 1 _ rfl,q 0 _ rfl,q 1 _ rfl,q 2 _ rfl,q 3 _ rfl,q 4 _ rfl,q 5 _ rfl,q 6 _ rfl,q 7 _ rfl⟩
 have vL:w.heap.size + 1 + 1 < h3.heap.size:=by have:=(U HB).1; omega
 refine wp_seq_k fun xh hK=>?_
 have HT:∀ (a6:Option Addr) (c6:Nat) (w1:World),ORow w1 h3.heap.size (.slice a6 l.length c6) l→yn h3 w1→xh { tmps:=#[.agg #[H next,.slice a l.length cap],.agg (yx kk s ty li qt ii pr tg).toArray,yp w 0,I (w.heap.size + 1) 0,I (w.heap.size + 1 + 1) 0,.slice none 0 0,.slice a6 l.length c6,Z,Z,Z,Z,Z,Z,Z,Z,Z,Z,Z,.slice (some (yq h3 0)) 0 0,yp w 1,.slice a l.length cap,.slice a6 l.length c6,Z,Z,Z,Z,Z,Z,Z,Z,Z,Z,Z,Z,Z,Z,Z,Z,Z,Z,Z,Z,Z,Z,Z,Z,Z,Z,Z,Z,Z,Z,Z,Z,Z,Z,Z,Z,Z,Z,Z,Z,Z,Z,Z,Z,Z,Z,Z,Z,Z,Z,Z,Z,Z,Z,Z,Z,Z,Z,Z,Z,Z,Z,Z,Z,Z,Z,Z,Z,Z,Z,Z,Z,Z,Z,Z,Z,Z,Z,Z,Z,Z,Z,Z,Z,Z,Z,Z,Z,Z,Z,Z,Z,Z,Z,Z,Z,Z,Z,Z,Z,Z,Z,Z,Z,Z,Z,Z,Z,Z,Z,Z,Z,Z,Z,Z,Z,Z,Z,Z,Z,Z,Z,Z,Z,Z,Z,Z,Z,Z,Z,Z,Z,Z,Z,Z,Z,Z,Z,Z,Z,Z,Z,Z,Z,Z,Z,Z,Z,Z],defers:=[] } w1:=by
  intro a6 c6 w1 qA ub
  refine hK _ _ ?_
  clear hK
  have vv:=M qA
  have xU:=M ub
  clear qA ub
  obtain ⟨z0,z1,y0,y1,y2,y3,y4,y5,y6,y7⟩:=U xL w1 (U xU)
  refine ic fun xh xK=>?_
  go_wp2_with fail
  refine (U uL w1 (zh (U HR) ((U HB).2.2.2.2.2.trans ((U xU).mono (U HB).2.2.2.2.2.size)) hU)).mono ?_
  rintro e w2 ⟨rfl,xP⟩
  have qy:=M (zp (U vv) xP)
  have xt:=M (ia (U xU) xP)
  clear z0 z1 y0 y1 y2 y3 y4 y5 y6 y7 xP vv
  obtain ⟨z0,z1,y0,y1,y2,y3,y4,y5,y6,y7⟩:=U xL w2 (U xt)
  have qd:=M (zk (U HB).2.2.2.2.1 (U xt) vL)
  have pm:w.heap.size + 1 + 1 < w2.heap.size:=yK vL (U xt).size
  have xI:=M ((U HB).2.2.2.2.2.trans ((U xt).mono (U HB).2.2.2.2.2.size))
  have hXw:w.heap.size ≤ h3.heap.size:=by omega
  have pK:h3.heap.size ≤ w2.heap.size:=(U xt).size
  have oP:=pK
  by_cases vE:rr = 0
  ·subst vE
   have hkk:=U HK rfl
   rcases hkk with rfl | rfl | rfl | rfl
   ·exact absurd (U uy).2 (by decide)
   ·exact absurd (U uy).2 (by decide)
   ·obtain ⟨k,o,hpk,aU⟩:=U kK rfl (by simp)
    have pR:(plc l ii).toNat = k:=by rw [hpk]; rfl
    have xC:l ≠ []:=by rintro rfl; simp at aU
    have pP:=(yH.1 aU).1
    have vH:Hid (sN = next∧sE = [⟨7,zCm,ii,0,qt,0,0⟩]):=⟨by rw [U vW,if_neg (fun h=>by have:=h.2; omega)],by rw [U vO,if_pos rfl,if_neg (by omega),if_neg (by omega),if_pos rfl]⟩
    have HLD:Hid (l.set k { o with left:=qt } = sL):=by show _ = _; rw [U uA,if_pos rfl,if_neg (by omega),if_neg (by omega),if_pos rfl]; simp only [pR,aU]
    have HPK:=M hpk
    have HLO:=M aU
    clear hpk aU pR vW uA vO HQ kK HK jR ja kw kZ
    obtain ⟨g,cp,hv6,uq,hBg,hgw⟩:=fE (U qy) xC
    simp only [Value.slice.injEq] at hv6
    obtain ⟨rfl,-,rfl⟩:=hv6
    go_wp2_with fail
    refine U xK _ _ ?_
    clear xK
    go_wp2_with fail
    refine (fC _ l ii w2 (zV (U qy) (by omega))).mono ?_
    rw [U HPK]
    rintro e w3 ⟨rfl,xQ⟩
    have qW:=M (zp (U qy) xQ)
    have xG:=M (ia (U xt) xQ)
    clear xQ z0 z1 y0 y1 y2 y3 y4 y5 y6 y7 qd xI pm oP
    have qd:=M (zk (U HB).2.2.2.2.1 (U xG) vL)
    have pm:w.heap.size + 1 + 1 < w3.heap.size:=yK vL (U xG).size
    have xI:=M ((U HB).2.2.2.2.2.trans ((U xG).mono (U HB).2.2.2.2.2.size))
    have oP:h3.heap.size ≤ w3.heap.size:=(U xG).size
    obtain ⟨z0,z1,y0,y1,y2,y3,y4,y5,y6,y7⟩:=U xL w3 (U xG)
    have ur:=fh (U qW) (by omega) (U HLO)
    have hkl':(k:Int) < l.length:=by omega
    have oG:(0:Int) ≤ k:=by omega
    have hgR:g ≠ w.heap.size + 1 + 1:=by omega
    have hRS:w.heap.size + 1 + 1 < h3.heap.size:=vL
    have hG3:w3.cell? (J g (k * 6 + 3)) = some (H o.left):=ur.1 3 _ rfl
    have hF3:w3.frozen? (J g (k * 6 + 3)) = false:=ur.2 3 (by omega)
    clear ur
    have oa:Hid (ORow (w3.setCell (J g (k * 6 + 3)) (H qt)) h3.heap.size (.slice (some (J g 0)) l.length c6) sL):=by have:=(oRow_left (U qW) rfl (U HLO) qt).1; rw [U HLD] at this; exact this
    have xO:Hid (yn h3 (w3.setCell (J g (k * 6 + 3)) (H qt))):=(U xG).setCell (p:=(J g (k * 6 + 3))) hBg _
    go_wp2_with fail
    clear z0 z1 y0 y1 y2 y3 y4 y5 y6 y7 hG3 hF3 qd xI pm oP
    generalize (w3.setCell (J g (k * 6 + 3)) (H qt)) = w4 at oa xO ⊢
    have qd:=M (zk (U HB).2.2.2.2.1 (U xO) vL)
    have pm:w.heap.size + 1 + 1 < w4.heap.size:=yK vL (U xO).size
    have xI:=M ((U HB).2.2.2.2.2.trans ((U xO).mono (U HB).2.2.2.2.2.size))
    have oP:h3.heap.size ≤ w4.heap.size:=(U xO).size
    obtain ⟨z0,z1,y0,y1,y2,y3,y4,y5,y6,y7⟩:=U xL w4 (U xO)
    have HZ0:=M z0
    have jI:=M z1
    have HY0:=M y0
    have HY1:=M y1
    have jj:=M y2
    have HY3:=M y3
    have qu:=M y4
    have HY5:=M y5
    have kA:=M y6
    have jc:=M y7
    go_wp2_with fail
    clear z0 z1 y0 y1 y2 y3 y4 y5 y6 y7
    refine zn (RXA (fun f=>{ tmps:=#[.agg #[H next,.slice a l.length cap],.agg (yx 3 s ty li qt ii pr tg).toArray,yp w 0,I (w.heap.size + 1) 0,I (w.heap.size + 1 + 1) 0,f 11,.slice (some (J g 0)) l.length c6,H 0,H k,Z,Z,Z,Z,Z,Z,Z,Z,Z,.slice (some (yq h3 0)) 0 0,yp w 1,.slice a l.length cap,.slice (some (J g 0)) l.length c6,.agg #[H next,.slice a l.length cap],.agg (yx 3 s ty li qt ii pr tg).toArray,H 0,H 0,.bool false,Z,Z,Z,Z,Z,Z,Z,Z,Z,.slice (some (J g 0)) l.length c6,I (w.heap.size + 1) 5,H ii,H k,I (w.heap.size + 1) 0,H 3,.bool false,.bool false,Z,Z,Z,Z,Z,Z,Z,Z,Z,Z,Z,Z,Z,Z,Z,Z,.bool true,.bool true,.slice (some (J g 0)) l.length c6,H k,I (w.heap.size + 1) 4,H qt,I g (k * 6),I g (k * 6 + 3),f 0,f 1,f 2,f 3,f 4,f 5,f 6,f 7,f 8,f 9,Z,Z,Z,Z,Z,Z,Z,Z,Z,Z,Z,Z,Z,Z,Z,Z,Z,Z,Z,Z,Z,Z,Z,Z,Z,Z,Z,Z,Z,Z,Z,Z,Z,Z,Z,Z,Z,Z,Z,Z,Z,Z,Z,Z,Z,Z,Z,Z,Z,Z,Z,Z,Z,Z,Z,Z,Z,Z,Z,Z,Z,Z,Z,Z,Z,Z,Z,Z,Z,Z,Z,Z,Z,Z,Z,Z,Z,Z,Z,Z,Z,Z,Z,Z,Z,Z,Z,Z,Z,Z,Z,Z,Z],defers:=[] }) (CX [yp w 0,H next,.slice (some (J g 0)) l.length c6,.agg #[H next,.slice (some (J g 0)) l.length c6],I (w.heap.size + 1) 5,H ii,I (w.heap.size + 1) 4,H qt,.agg (yv 7 0 0 0 0 0 0 0 ⟨#[]⟩ ii 0 qt 0 0).toArray,Z,Z,Z] [(9,2),(10,9),(11,2)] (h3.heap.size) (next) (sL) ([⟨7,zCm,ii,0,qt,0,0⟩])) (w.heap.size + 1 + 1) 2 10 (fun f=>aggL (f 3)) w4) (by kernel_rfl) ?_ ?_ ?_
    ·exact ⟨fun j=>if j = 11 then .slice none 0 0 else Z,rfl,rx_start pm (U qd)⟩
    rotate_left
    ·rintro x hb V i op ⟨f,rfl,F⟩ xo hx Y xu K
     have xA:=M F
     have xj:∀ (p:Addr) u,w4.cell? p = some u→p.block ≠ w.heap.size + 1 + 1→V.cell? p = some u:=fun p u hu hp=>kb_cell F.k hu hp
     match i,Y with
      | 0,Y =>
       obtain rfl:=ya Y
       clear K F xj xo
       rw [if_pos (by rfl)];unfold Oper.wp;go_simp
       exact ⟨upd f 0 (yp w 0),by simp [upd],bW (U xA) 0 _ (by decide) (fun _=>rfl) (zT rfl rfl)⟩
      | 1,Y =>
       obtain rfl:=ya Y
       have g0:f 0 = yp w 0:=zP (F.c 0 (ye K 0 rfl)) rfl rfl
       have z0:=xj (yq w 0) _ (U HZ0) (show w.heap.size ≠ w.heap.size + 1 + 1 by omega)
       clear K F xj xo
       rw [if_pos (by rfl)];unfold Oper.wp;go_simp
       exact ⟨upd f 1 (H next),by simp [upd,g0],bW (U xA) 1 _ (by decide) (fun _=>rfl) (zT rfl rfl)⟩
      | 2,Y =>
       obtain rfl:=ya Y
       clear K F xj xo
       rw [if_pos (by rfl)];unfold Oper.wp;go_simp
       exact ⟨upd f 2 (.slice (some (J g 0)) l.length c6),by simp [upd],bW (U xA) 2 _ (by decide) (fun _=>rfl) (zT rfl rfl)⟩
      | 3,Y =>
       obtain rfl:=ya Y
       have g1:f 1 = H next:=zP (F.c 1 (ye K 1 rfl)) rfl rfl
       have g2:f 2 = .slice (some (J g 0)) l.length c6:=zP (F.c 2 (ye K 2 rfl)) rfl rfl
       have hcl0:=xo
       clear K F xj xo
       rw [if_pos (by rfl)];unfold Oper.wp;go_simp
       exact ⟨upd f 3 (.agg #[H next,.slice (some (J g 0)) l.length c6]),by simp [upd,g1,g2],bW (U xA) 3 _ (by decide) (fun h=>by rw [ch hcl0 12 3 10 (by kernel_rfl) hx (by simp) xu] at h; cases h) (zT rfl rfl)⟩
      | 4,Y =>
       obtain rfl:=ya Y
       clear K F xj xo
       rw [if_pos (by rfl)];unfold Oper.wp;go_simp
       exact ⟨upd f 4 (I (w.heap.size + 1) 5),by simp [upd],bW (U xA) 4 _ (by decide) (fun _=>rfl) (zT rfl rfl)⟩
      | 5,Y =>
       obtain rfl:=ya Y
       have g4:f 4 = I (w.heap.size + 1) 5:=zP (F.c 4 (ye K 4 rfl)) rfl rfl
       have y5:=xj (J (w.heap.size + 1) 5) _ (U HY5) (show w.heap.size + 1 ≠ w.heap.size + 1 + 1 by omega)
       clear K F xj xo
       rw [if_pos (by rfl)];unfold Oper.wp;go_simp
       exact ⟨upd f 5 (H ii),by simp [upd,g4],bW (U xA) 5 _ (by decide) (fun _=>rfl) (zT rfl rfl)⟩
      | 6,Y =>
       obtain rfl:=ya Y
       clear K F xj xo
       rw [if_pos (by rfl)];unfold Oper.wp;go_simp
       exact ⟨upd f 6 (I (w.heap.size + 1) 4),by simp [upd],bW (U xA) 6 _ (by decide) (fun _=>rfl) (zT rfl rfl)⟩
      | 7,Y =>
       obtain rfl:=ya Y
       have g6:f 6 = I (w.heap.size + 1) 4:=zP (F.c 6 (ye K 6 rfl)) rfl rfl
       have y4:=xj (J (w.heap.size + 1) 4) _ (U qu) (show w.heap.size + 1 ≠ w.heap.size + 1 + 1 by omega)
       clear K F xj xo
       rw [if_pos (by rfl)];unfold Oper.wp;go_simp
       exact ⟨upd f 7 (H qt),by simp [upd,g6],bW (U xA) 7 _ (by decide) (fun _=>rfl) (zT rfl rfl)⟩
      | 8,Y =>
       obtain rfl:=ya Y
       have g5:f 5 = H ii:=zP (F.c 5 (ye K 5 rfl)) rfl rfl
       have g7:f 7 = H qt:=zP (F.c 7 (ye K 7 rfl)) rfl rfl
       clear K F xj xo
       rw [if_pos (by rfl)];unfold Oper.wp;go_simp
       exact ⟨upd f 8 (.agg (yv 7 0 0 0 0 0 0 0 ⟨#[]⟩ ii 0 qt 0 0).toArray),by simp [upd,g5,g7],bW (U xA) 8 _ (by decide) (fun _=>rfl) (zT rfl rfl)⟩
      | 9,Y =>
       obtain rfl:=ya Y
       have g8:f 8 = .agg (yv 7 0 0 0 0 0 0 0 ⟨#[]⟩ ii 0 qt 0 0).toArray:=zP (F.c 8 (ye K 8 rfl)) rfl rfl
       have aZ:=yO oP F.k.size
       clear K F xj xo
       rw [if_pos (by rfl)];unfold Oper.wp;go_simp
       exact ⟨upd f 9 (.slice (some (yq V 0)) 1 1),by simp [upd,g8],bW (rx_grow (eL hRS) (U xA) (gZ _ _)) 9 _ (by decide) (fun _=>rfl) (dM (d:=2) rfl ⟨eRow_one V ⟨7,zCm,ii,0,qt,0,0⟩ aZ,_,_,rfl⟩)⟩
      | 10,Y =>
       obtain rfl:=ya Y
       have g0:f 3 = .agg #[H next,.slice (some (J g 0)) l.length c6]:=zP (F.c 3 (ye K 3 rfl)) rfl rfl
       obtain ⟨y0,z0,q0⟩:=zg F.t (j:=0) (by omega)
       obtain ⟨y1,z1,q1⟩:=zg F.t (j:=1) (by omega)
       clear K F xj xo
       rw [if_pos (by rfl)];unfold Oper.wp;go_simp
       have vd:=rx_store (eL hRS) (U xA) xu (by simp [g0,aggL]) (fun _ _=>dM (d:=9) rfl trivial)
       simp only [g0,aggL] at vd
       exact ⟨f,by simp [g0],vd⟩
      | 11,Y =>
       obtain rfl:=ya Y
       have h8:=cx_sp (d:=2) (F.c 9 (ye K 9 rfl)) rfl
       obtain ⟨a8,c8,g8⟩:=h8.2
       rw [g8] at h8
       have H8:=M h8
       clear h8
       clear K F xj xo
       rw [if_pos (by rfl)];unfold Oper.wp;go_simp
       exact ⟨upd f 11 (f 9),by simp [upd,g8],bW (U xA) 11 _ (by decide) (fun _=>rfl) (dM (d:=2) rfl (by rw [g8]; exact U H8))⟩
      | n + 12,Y=>simp at Y
    ·rintro x hb V ⟨f,rfl,F⟩ hx xN
     have xp:=zY xN hx (by kernel_rfl)
     obtain ⟨hE8,a8,c8,e8⟩:=cx_sp (d:=2) (F.c 11 (xp 11 (by simp))) rfl
     have vN:=F.r (xp 10 (by simp))
     obtain ⟨v4,hv4,pv⟩:∃ v4,v4 = .slice (some (J g 0)) l.length c6∧ORow V h3.heap.size v4 sL:=⟨_,rfl,kb_row (U oa) F.k hRS⟩
     have g3:f 3 = .agg #[H next,.slice (some (J g 0)) l.length c6]:=zP (F.c 3 (xp 3 (by simp))) rfl rfl
     simp only [g3,aggL] at vN
     rw [← hv4] at vN
     clear g3
     have HO:Hid (ORow V w.heap.size v4 _∧ERow V w.heap.size (.slice a8 _ c8) _):=⟨zR pv (by omega),zR (e8 ▸ hE8) (by omega)⟩
     have xw:Hid (yn w V):=⟨F.k.os.trans (U xI).os,F.k.tape.trans (U xI).tape,F.k.output.trans (U xI).output,yO (U xI).size F.k.size,fun k E=>(F.k.block k (yK E (U xI).size) (by omega)).trans ((U xI).block k E)⟩
     have d0:V.cell? (J (w.heap.size + 1 + 1) 0) = some (H next):=vN 0 _ rfl
     have d1:V.cell? (J (w.heap.size + 1 + 1) 1) = some v4:=vN 1 _ rfl
     simp only [e8]
     generalize f 0 = w0,f 1 = w1,f 2 = w2,f 3 = w3,f 4 = w4,f 5 = w5,f 6 = w6,f 7 = w7,f 8 = w8,f 9 = w9
     clear F xp xN hx vN hE8 pv
     go_wp2_with fail
     try simp only [Exit.inBlock,Exit.then]
     refine bodyPost_ret (by simp [results,Tryz.results16,go_sem,d0,d1]; try rfl) rfl ?_
     obtain ⟨rfl,rfl⟩:=U vH
     exact ⟨_,_,rfl,(U HO).1,(U HO).2,U xw⟩
   ·exact absurd (U uy).2 (by decide)
  ·have oJ:=vE
   have jP:(rr == 0) = false:=by rw [xe]; exact vE
   have vH:Hid (sN = next∧sL = l∧sE = [⟨2,⟨kk,s,ty,li,qt,ii,pr,cutB tg⟩,0,0,0,0,rr⟩]):=⟨by rw [U vW,if_neg (fun h=>vE h.1)],by rw [U uA,if_neg vE],by rw [U vO,if_neg vE]⟩
   skip
   exact absurd (U uy).1 oJ
 rcases U qn with hs | ⟨ad,nn,cc,hs⟩
 ·simp only [Value.slice.injEq] at hs
  obtain ⟨rfl,jk,rfl⟩:=hs
  obtain rfl:=List.length_eq_zero_iff.1 jk
  obtain ⟨z0,z1,y0,y1,y2,y3,y4,y5,y6,y7⟩:=U xL h3 (Below.refl _ _)
  have vY:=M (World.ownsRow_made (base:=h3.heap.size) (e:=65) (size:=6) h3 #[] 0 hU (by decide) rfl)
  have hzX:World.cell? (h3.alloc (O #[] 65)) (yq w 1) = some (.slice none 0 0):=(U xL _ (gZ _ _)).2.1
  have ow:=M HT
  clear HT hK
  go_wp2_with (at_builtin; go_must (refine wpList_append_own_none rfl _ _ 25 rfl h3.heap.size 65 i0 6 Tryz.underlying25 uJ (.slice (some (yq h3 0)) 0 0) 0 [] rfl (U vY) rfl ?_))
  exact U ow _ _ _ (U vY) (gZ _ _)
 ·simp only [Value.slice.injEq] at hs
  obtain ⟨rfl,rfl,rfl⟩:=hs
  obtain ⟨z0,z1,y0,y1,y2,y3,y4,y5,y6,y7⟩:=U xL h3 (Below.refl _ _)
  have uK:Hid (yn h3 (h3.alloc (O #[] 65))):=gZ _ _
  have vY:=M (World.ownsRow_made (base:=h3.heap.size) (e:=65) (size:=6) h3 #[] 0 hU (by decide) rfl)
  have hzX:World.cell? (h3.alloc (O #[] 65)) (yq w 1) = some (.slice (some ad) l.length cap):=(U xL _ (U uK)).2.1
  have vf:Hid (∀ j u,(l.flatMap Od.vs)[j]? = some u→World.cell? (h3.alloc (O #[] 65)) (ad.add j) = some u):=rd_src (zh (U HR) ((U HB).2.2.2.2.2.trans ((U uK).mono (U HB).2.2.2.2.2.size)) hU)
  have ow:=M HT
  clear HT hK
  go_wp2_with (at_builtin; go_must (refine wpList_append_own _ rfl _ _ 25 rfl h3.heap.size 65 i0 _ 6 56 Tryz.underlying25 uJ uD uz uM rfl (by decide) (.slice (some (yq h3 0)) 0 0) 0 [] rfl (U vY) ad l.length cap (l.flatMap Od.vs) rfl (by rw [zL Od.len]) (U vf) (dj l) (by unfold maxLen; omega) (by omega) (U uK).size ?_); intro v1 w1 uW je _; have vv:=M uW; have oN:=M je; clear uW je)
  have bz:Hid (ORow w1 h3.heap.size v1 l):=by
   show w1.ownsRow _ _ _ _ l.length _
   simpa using U vv
  obtain ⟨a6,c6,hv⟩:=cT (U bz)
  subst hv
  exact U ow _ _ _ (U bz) ((U uK).grown (U oN) (U uK).size (fun k E=>((U vY).lt k E).1))
end Go.Proofs.YthhkapcbocgcoaaGreatDoor
