/-
  A command done on a book, by the model: proved by walking the function.
-/
import Derived.Test.YtbakanofkghmiaaGreatPj43
set_option linter.unusedVariables false
set_option maxHeartbeats 6400000
set_option maxRecDepth 100000
namespace Go.Proofs.YtbakanofkghmiaaGreat
open Go.RowKit
theorem l04Step_d (next:Int) (vb:Value) (l:List Od) (c:Cm) (w:World) (qP:refR next l c = 0∧c.k = 3) (hr:RdR Od.vs 6 w vb l) (hs:SlOk vb) (hg:GoodL l) (uu:∀ x ∈ l,x.side = 1 ∨ x.side = 2) (h0:0 ≤ next) (z:next ≤ 1000000) (ht:c.g.size ≤ maxLen) :
  Calls Tryz.prog 44 #[.agg #[H next,vb],cmV c] w fun e w'=>∃ vq vg,e = yk (.tuple #[.agg #[H (stN next l c),vq],vg])∧ORow w' w.heap.size vq (stL next l c)∧ERow w' w.heap.size vg (stE next l c)∧yl w w':=by
 obtain ⟨i0,uv,uq,uw,uM⟩:=info_parts Tryz.infoOrder
 obtain ⟨j0,jk,js,kM,hy2⟩:=info_parts infoEv
 have HR:=Q hr
 have uW:=Q hs
 have HG:=Q hg
 have qU:=Q ht
 have vG:=hg.len
 have ur:Hid (0 ≤ next∧next ≤ 1000000):=⟨h0,z⟩
 have uG:=Q (fun (W:World) hW=>dF next vb l c W hW hs hg uu ht)
 rw [ref_eq] at uG
 have HK:=Q (@de next l c)
 have HQ:=Q (@dx next l c)
 have qA:=Q (@ref_id next l c)
 have jm:=Q (@ref_newS next l c)
 have um:=Q qP
 clear qP
 have uB:Hid (stN next l c = if refR next l c = 0∧c.k = 1 then next + 1 else next):=rfl
 have uo:=Q (stL.eq_1 next l c)
 have uA:=Q (stE.eq_1 next l c)
 have oa:=Q (fun W=>dE c W ht)
 have qF:=Q (fun (a:Option Addr) (n F:Nat) (W:World)=>dn next a n F c W)
 have jJ:=Q (fun (v:Value) (W:World) hr hs hp je qy=>dm v l c next W hr hg hs hp je qy)
 obtain ⟨a,F,rfl,vy,hc⟩:=hr
 obtain ⟨kk,s,ty,li,X,ii,pr,O⟩:=c
 generalize stN next l ⟨kk,s,ty,li,X,ii,pr,O⟩ = sN at uB ⊢
 generalize stL next l ⟨kk,s,ty,li,X,ii,pr,O⟩ = sL at uo ⊢
 generalize stE next l ⟨kk,s,ty,li,X,ii,pr,O⟩ = sE at uA ⊢
 generalize refR next l ⟨kk,s,ty,li,X,ii,pr,O⟩ = rr at uG uB uo uA HK HQ qA jm um
 unfold cmV at uG qF ⊢
 simp only at uG uB uo uA HK HQ qA jm oa qF jJ qU um ⊢
 have HB:=Q (box3 w [H next,.slice a l.length F] (yu kk s ty li X ii pr O) [H 0,.slice none 0 0] 28 43 28)
 clear hs hg uu h0 z ht hc vy
 go_enter Tryz.func44,Tryz.ntmps44
 refine eH fun h2 xu=>?_
 go_wp2_with fail
 refine M xu _ _ ?_
 clear xu
 change Hid ((((w.alloc (E #[H next,.slice a l.length F] 28)).alloc (E (yu kk s ty li X ii pr O).toArray 43)).alloc (E #[H 0,.slice none 0 0] 28)).heap.size = w.heap.size + 3∧World.rangeAt (((w.alloc (E #[H next,.slice a l.length F] 28)).alloc (E (yu kk s ty li X ii pr O).toArray 43)).alloc (E #[H 0,.slice none 0 0] 28)) w.heap.size 0 [H next,.slice a l.length F]∧World.rangeAt (((w.alloc (E #[H next,.slice a l.length F] 28)).alloc (E (yu kk s ty li X ii pr O).toArray 43)).alloc (E #[H 0,.slice none 0 0] 28)) (w.heap.size + 1) 0 (yu kk s ty li X ii pr O)∧World.rangeAt (((w.alloc (E #[H next,.slice a l.length F] 28)).alloc (E (yu kk s ty li X ii pr O).toArray 43)).alloc (E #[H 0,.slice none 0 0] 28)) (w.heap.size + 1 + 1) 0 [H 0,.slice none 0 0]∧World.there (((w.alloc (E #[H next,.slice a l.length F] 28)).alloc (E (yu kk s ty li X ii pr O).toArray 43)).alloc (E #[H 0,.slice none 0 0] 28)) (w.heap.size + 1 + 1) 0 2∧yl w (((w.alloc (E #[H next,.slice a l.length F] 28)).alloc (E (yu kk s ty li X ii pr O).toArray 43)).alloc (E #[H 0,.slice none 0 0] 28))) at HB
 generalize (((w.alloc (E #[H next,.slice a l.length F] 28)).alloc (E (yu kk s ty li X ii pr O).toArray 43)).alloc (E #[H 0,.slice none 0 0] 28)) = qt at HB ⊢
 have xE:Hid (∀ W:World,yl qt W→W.cell? (yn w 0) = some (H next)∧W.cell? (yn w 1) = some (.slice a l.length F)∧W.cell? (J (w.heap.size + 1) 0) = some (H kk)∧W.cell? (J (w.heap.size + 1) 1) = some (H s)∧W.cell? (J (w.heap.size + 1) 2) = some (H ty)∧W.cell? (J (w.heap.size + 1) 3) = some (H li)∧W.cell? (J (w.heap.size + 1) 4) = some (H X)∧W.cell? (J (w.heap.size + 1) 5) = some (H ii)∧W.cell? (J (w.heap.size + 1) 6) = some (yh pr)∧W.cell? (J (w.heap.size + 1) 7) = some (yi O)):=fun W hW =>
  have p:=zb (M HB).2.1 hW (by have:=(M HB).1; omega)
  have q:=zb (M HB).2.2.1 hW (by have:=(M HB).1; omega)
  ⟨p 0 _ rfl,p 1 _ rfl,q 0 _ rfl,q 1 _ rfl,q 2 _ rfl,q 3 _ rfl,q 4 _ rfl,q 5 _ rfl,q 6 _ rfl,q 7 _ rfl⟩
 have uU:w.heap.size + 1 + 1 < qt.heap.size:=by have:=(M HB).1; omega
 refine wp_seq_k fun h2 hK=>?_
 have HT:∀ (a6:Option Addr) (c6:Nat) (w1:World),ORow w1 qt.heap.size (.slice a6 l.length c6) l→yl qt w1→h2 { tmps:=#[.agg #[H next,.slice a l.length F],.agg (yu kk s ty li X ii pr O).toArray,ym w 0,I (w.heap.size + 1) 0,I (w.heap.size + 1 + 1) 0,.slice none 0 0,.slice a6 l.length c6,Z,Z,Z,Z,Z,Z,Z,Z,Z,Z,Z,.slice (some (yn qt 0)) 0 0,ym w 1,.slice a l.length F,.slice a6 l.length c6,Z,Z,Z,Z,Z,Z,Z,Z,Z,Z,Z,Z,Z,Z,Z,Z,Z,Z,Z,Z,Z,Z,Z,Z,Z,Z,Z,Z,Z,Z,Z,Z,Z,Z,Z,Z,Z,Z,Z,Z,Z,Z,Z,Z,Z,Z,Z,Z,Z,Z,Z,Z,Z,Z,Z,Z,Z,Z,Z,Z,Z,Z,Z,Z,Z,Z,Z,Z,Z,Z,Z,Z,Z,Z,Z,Z,Z,Z,Z,Z,Z,Z,Z,Z,Z,Z,Z,Z,Z,Z,Z,Z,Z,Z,Z,Z,Z,Z,Z,Z,Z,Z,Z,Z,Z,Z,Z,Z,Z,Z,Z,Z,Z,Z,Z,Z,Z,Z,Z,Z,Z,Z,Z,Z,Z,Z,Z,Z,Z,Z,Z,Z,Z,Z,Z,Z,Z,Z,Z,Z,Z,Z,Z,Z,Z,Z,Z,Z,Z],defers:=[] } w1:=by
  intro a6 c6 w1 vV xR
  refine hK _ _ ?_
  clear hK
  have uZ:=Q vV
  have xT:=Q xR
  clear vV xR
  obtain ⟨z0,z1,y0,y1,y2,y3,y4,y5,y6,y7⟩:=M xE w1 (M xT)
  refine eH fun h2 xu=>?_
  go_wp2_with fail
  refine (M uG w1 (zh (M HR) ((M HB).2.2.2.2.2.trans ((M xT).mono (M HB).2.2.2.2.2.size)) tg)).mono ?_
  rintro e w2 ⟨rfl,ue⟩
  have vO:=Q (zj (M uZ) ue)
  have xC:=Q (eG (M xT) ue)
  clear z0 z1 y0 y1 y2 y3 y4 y5 y6 y7 ue uZ
  obtain ⟨z0,z1,y0,y1,y2,y3,y4,y5,y6,y7⟩:=M xE w2 (M xC)
  have vw:=Q (zf (M HB).2.2.2.2.1 (M xC) uU)
  have oh:w.heap.size + 1 + 1 < w2.heap.size:=yG uU (M xC).size
  have xJ:=Q ((M HB).2.2.2.2.2.trans ((M xC).mono (M HB).2.2.2.2.2.size))
  have hXw:w.heap.size ≤ qt.heap.size:=by omega
  have hX2:qt.heap.size ≤ w2.heap.size:=(M xC).size
  have kS:=hX2
  by_cases uR:rr = 0
  ·subst uR
   have pA:=M HK rfl
   rcases pA with rfl | rfl | rfl | rfl
   ·exact absurd (M um).2 (by decide)
   ·exact absurd (M um).2 (by decide)
   ·obtain ⟨k,o,oC,jc⟩:=M qA rfl (by simp)
    have jD:(plc l ii).toNat = k:=by rw [oC]; rfl
    have xA:l ≠ []:=by rintro rfl; simp at jc
    have jZ:=(yD.1 jc).1
    have ux:Hid (sN = next∧sE = [⟨7,zCm,ii,0,X,0,0⟩]):=⟨by rw [M uB,if_neg (fun h=>by have:=h.2; omega)],by rw [M uA,if_pos rfl,if_neg (by omega),if_neg (by omega),if_pos rfl]⟩
    have HLD:Hid (l.set k { o with left:=X } = sL):=by show _ = _; rw [M uo,if_pos rfl,if_neg (by omega),if_neg (by omega),if_pos rfl]; simp only [jD,jc]
    have HPK:=Q oC
    have HLO:=Q jc
    clear oC jc jD uB uo uA HQ qA HK jm qF jJ oa
    obtain ⟨g,cp,hv6,vR,hBg,hgw⟩:=dt (M vO) xA
    simp only [Value.slice.injEq] at hv6
    obtain ⟨rfl,-,rfl⟩:=hv6
    go_wp2_with fail
    refine M xu _ _ ?_
    clear xu
    go_wp2_with fail
    refine (dq _ l ii w2 (zT (M vO) (by omega))).mono ?_
    rw [M HPK]
    rintro e w3 ⟨rfl,uf⟩
    have qB:=Q (zj (M vO) uf)
    have xM:=Q (eG (M xC) uf)
    clear uf z0 z1 y0 y1 y2 y3 y4 y5 y6 y7 vw xJ oh kS
    have vw:=Q (zf (M HB).2.2.2.2.1 (M xM) uU)
    have oh:w.heap.size + 1 + 1 < w3.heap.size:=yG uU (M xM).size
    have xJ:=Q ((M HB).2.2.2.2.2.trans ((M xM).mono (M HB).2.2.2.2.2.size))
    have kS:qt.heap.size ≤ w3.heap.size:=(M xM).size
    obtain ⟨z0,z1,y0,y1,y2,y3,y4,y5,y6,y7⟩:=M xE w3 (M xM)
    have uD:=row_here (M qB) (by omega) (M HLO)
    have hkl':(k:Int) < l.length:=by omega
    have hk0:(0:Int) ≤ k:=by omega
    have hgR:g ≠ w.heap.size + 1 + 1:=by omega
    have hRS:w.heap.size + 1 + 1 < qt.heap.size:=uU
    have hG3:w3.cell? (J g (k * 6 + 3)) = some (H o.left):=uD.1 3 _ rfl
    have hF3:w3.frozen? (J g (k * 6 + 3)) = false:=uD.2 3 (by omega)
    clear uD
    have kQ:Hid (ORow (w3.setCell (J g (k * 6 + 3)) (H X)) qt.heap.size (.slice (some (J g 0)) l.length c6) sL):=by have:=(oRow_left (M qB) rfl (M HLO) X).1; rw [M HLD] at this; exact this
    have xS:Hid (yl qt (w3.setCell (J g (k * 6 + 3)) (H X))):=(M xM).setCell (p:=(J g (k * 6 + 3))) hBg _
    go_wp2_with fail
    clear z0 z1 y0 y1 y2 y3 y4 y5 y6 y7 hG3 hF3 vw xJ oh kS
    generalize (w3.setCell (J g (k * 6 + 3)) (H X)) = w4 at kQ xS ⊢
    have vw:=Q (zf (M HB).2.2.2.2.1 (M xS) uU)
    have oh:w.heap.size + 1 + 1 < w4.heap.size:=yG uU (M xS).size
    have xJ:=Q ((M HB).2.2.2.2.2.trans ((M xS).mono (M HB).2.2.2.2.2.size))
    have kS:qt.heap.size ≤ w4.heap.size:=(M xS).size
    obtain ⟨z0,z1,y0,y1,y2,y3,y4,y5,y6,y7⟩:=M xE w4 (M xS)
    have HZ0:=Q z0
    have HZ1:=Q z1
    have HY0:=Q y0
    have HY1:=Q y1
    have HY2:=Q y2
    have HY3:=Q y3
    have HY4:=Q y4
    have HY5:=Q y5
    have HY6:=Q y6
    have HY7:=Q y7
    go_wp2_with fail
    clear z0 z1 y0 y1 y2 y3 y4 y5 y6 y7
    refine zi (RXA (fun f=>{ tmps:=#[.agg #[H next,.slice a l.length F],.agg (yu 3 s ty li X ii pr O).toArray,ym w 0,I (w.heap.size + 1) 0,I (w.heap.size + 1 + 1) 0,f 11,.slice (some (J g 0)) l.length c6,H 0,H k,Z,Z,Z,Z,Z,Z,Z,Z,Z,.slice (some (yn qt 0)) 0 0,ym w 1,.slice a l.length F,.slice (some (J g 0)) l.length c6,.agg #[H next,.slice a l.length F],.agg (yu 3 s ty li X ii pr O).toArray,H 0,H 0,.bool false,Z,Z,Z,Z,Z,Z,Z,Z,Z,.slice (some (J g 0)) l.length c6,I (w.heap.size + 1) 5,H ii,H k,I (w.heap.size + 1) 0,H 3,.bool false,.bool false,Z,Z,Z,Z,Z,Z,Z,Z,Z,Z,Z,Z,Z,Z,Z,Z,.bool true,.bool true,.slice (some (J g 0)) l.length c6,H k,I (w.heap.size + 1) 4,H X,I g (k * 6),I g (k * 6 + 3),f 0,f 1,f 2,f 3,f 4,f 5,f 6,f 7,f 8,f 9,Z,Z,Z,Z,Z,Z,Z,Z,Z,Z,Z,Z,Z,Z,Z,Z,Z,Z,Z,Z,Z,Z,Z,Z,Z,Z,Z,Z,Z,Z,Z,Z,Z,Z,Z,Z,Z,Z,Z,Z,Z,Z,Z,Z,Z,Z,Z,Z,Z,Z,Z,Z,Z,Z,Z,Z,Z,Z,Z,Z,Z,Z,Z,Z,Z,Z,Z,Z,Z,Z,Z,Z,Z,Z,Z,Z,Z,Z,Z,Z,Z,Z,Z,Z,Z,Z,Z,Z,Z,Z,Z,Z,Z],defers:=[] }) (CX [ym w 0,H next,.slice (some (J g 0)) l.length c6,.agg #[H next,.slice (some (J g 0)) l.length c6],I (w.heap.size + 1) 5,H ii,I (w.heap.size + 1) 4,H X,.agg (ys 7 0 0 0 0 0 0 0 ⟨#[]⟩ ii 0 X 0 0).toArray,Z,Z,Z] [(9,2),(10,9),(11,2)] (qt.heap.size) (next) (sL) ([⟨7,zCm,ii,0,X,0,0⟩])) (w.heap.size + 1 + 1) 2 10 (fun f=>aggL (f 3)) w4) (by kernel_rfl) ?_ ?_ ?_
    ·exact ⟨fun j=>if j = 11 then .slice none 0 0 else Z,rfl,rx_start oh (M vw)⟩
    rotate_left
    ·rintro x hR V i op ⟨f,rfl,A⟩ xk hx Y xq D
     have xv:=Q A
     have xj:∀ (p:Addr) u,w4.cell? p = some u→p.block ≠ w.heap.size + 1 + 1→V.cell? p = some u:=fun p u hu hp=>kb_cell A.k hu hp
     match i,Y with
      | 0,Y =>
       obtain rfl:=hD Y
       clear D A xj xk
       rw [if_pos (by rfl)];unfold Oper.wp;go_simp
       exact ⟨upd f 0 (ym w 0),by simp [upd],zX (M xv) 0 _ (by decide) (fun _=>rfl) (zZ rfl rfl)⟩
      | 1,Y =>
       obtain rfl:=hD Y
       have g0:f 0 = ym w 0:=zV (A.c 0 (yc D 0 rfl)) rfl rfl
       have z0:=xj (yn w 0) _ (M HZ0) (show w.heap.size ≠ w.heap.size + 1 + 1 by omega)
       clear D A xj xk
       rw [if_pos (by rfl)];unfold Oper.wp;go_simp
       exact ⟨upd f 1 (H next),by simp [upd,g0],zX (M xv) 1 _ (by decide) (fun _=>rfl) (zZ rfl rfl)⟩
      | 2,Y =>
       obtain rfl:=hD Y
       clear D A xj xk
       rw [if_pos (by rfl)];unfold Oper.wp;go_simp
       exact ⟨upd f 2 (.slice (some (J g 0)) l.length c6),by simp [upd],zX (M xv) 2 _ (by decide) (fun _=>rfl) (zZ rfl rfl)⟩
      | 3,Y =>
       obtain rfl:=hD Y
       have g1:f 1 = H next:=zV (A.c 1 (yc D 1 rfl)) rfl rfl
       have g2:f 2 = .slice (some (J g 0)) l.length c6:=zV (A.c 2 (yc D 2 rfl)) rfl rfl
       have hcl0:=xk
       clear D A xj xk
       rw [if_pos (by rfl)];unfold Oper.wp;go_simp
       exact ⟨upd f 3 (.agg #[H next,.slice (some (J g 0)) l.length c6]),by simp [upd,g1,g2],zX (M xv) 3 _ (by decide) (fun h=>by rw [zB hcl0 12 3 10 (by kernel_rfl) hx (by simp) xq] at h; cases h) (zZ rfl rfl)⟩
      | 4,Y =>
       obtain rfl:=hD Y
       clear D A xj xk
       rw [if_pos (by rfl)];unfold Oper.wp;go_simp
       exact ⟨upd f 4 (I (w.heap.size + 1) 5),by simp [upd],zX (M xv) 4 _ (by decide) (fun _=>rfl) (zZ rfl rfl)⟩
      | 5,Y =>
       obtain rfl:=hD Y
       have g4:f 4 = I (w.heap.size + 1) 5:=zV (A.c 4 (yc D 4 rfl)) rfl rfl
       have y5:=xj (J (w.heap.size + 1) 5) _ (M HY5) (show w.heap.size + 1 ≠ w.heap.size + 1 + 1 by omega)
       clear D A xj xk
       rw [if_pos (by rfl)];unfold Oper.wp;go_simp
       exact ⟨upd f 5 (H ii),by simp [upd,g4],zX (M xv) 5 _ (by decide) (fun _=>rfl) (zZ rfl rfl)⟩
      | 6,Y =>
       obtain rfl:=hD Y
       clear D A xj xk
       rw [if_pos (by rfl)];unfold Oper.wp;go_simp
       exact ⟨upd f 6 (I (w.heap.size + 1) 4),by simp [upd],zX (M xv) 6 _ (by decide) (fun _=>rfl) (zZ rfl rfl)⟩
      | 7,Y =>
       obtain rfl:=hD Y
       have g6:f 6 = I (w.heap.size + 1) 4:=zV (A.c 6 (yc D 6 rfl)) rfl rfl
       have y4:=xj (J (w.heap.size + 1) 4) _ (M HY4) (show w.heap.size + 1 ≠ w.heap.size + 1 + 1 by omega)
       clear D A xj xk
       rw [if_pos (by rfl)];unfold Oper.wp;go_simp
       exact ⟨upd f 7 (H X),by simp [upd,g6],zX (M xv) 7 _ (by decide) (fun _=>rfl) (zZ rfl rfl)⟩
      | 8,Y =>
       obtain rfl:=hD Y
       have g5:f 5 = H ii:=zV (A.c 5 (yc D 5 rfl)) rfl rfl
       have g7:f 7 = H X:=zV (A.c 7 (yc D 7 rfl)) rfl rfl
       clear D A xj xk
       rw [if_pos (by rfl)];unfold Oper.wp;go_simp
       exact ⟨upd f 8 (.agg (ys 7 0 0 0 0 0 0 0 ⟨#[]⟩ ii 0 X 0 0).toArray),by simp [upd,g5,g7],zX (M xv) 8 _ (by decide) (fun _=>rfl) (zZ rfl rfl)⟩
      | 9,Y =>
       obtain rfl:=hD Y
       have g8:f 8 = .agg (ys 7 0 0 0 0 0 0 0 ⟨#[]⟩ ii 0 X 0 0).toArray:=zV (A.c 8 (yc D 8 rfl)) rfl rfl
       have qO:=yK kS A.k.size
       clear D A xj xk
       rw [if_pos (by rfl)];unfold Oper.wp;go_simp
       exact ⟨upd f 9 (.slice (some (yn V 0)) 1 1),by simp [upd,g8],zX (rx_grow (cS hRS) (M xv) (eD _ _)) 9 _ (by decide) (fun _=>rfl) (bL (d:=2) rfl ⟨eRow_one V ⟨7,zCm,ii,0,X,0,0⟩ qO,_,_,rfl⟩)⟩
      | 10,Y =>
       obtain rfl:=hD Y
       have g0:f 3 = .agg #[H next,.slice (some (J g 0)) l.length c6]:=zV (A.c 3 (yc D 3 rfl)) rfl rfl
       obtain ⟨y0,z0,q0⟩:=zd A.t (j:=0) (by omega)
       obtain ⟨y1,z1,q1⟩:=zd A.t (j:=1) (by omega)
       clear D A xj xk
       rw [if_pos (by rfl)];unfold Oper.wp;go_simp
       have uH:=rx_store (cS hRS) (M xv) xq (by simp [g0,aggL]) (fun _ _=>bL (d:=9) rfl trivial)
       simp only [g0,aggL] at uH
       exact ⟨f,by simp [g0],uH⟩
      | 11,Y =>
       obtain rfl:=hD Y
       have h8:=cx_sp (d:=2) (A.c 9 (yc D 9 rfl)) rfl
       obtain ⟨a8,c8,g8⟩:=h8.2
       rw [g8] at h8
       have H8:=Q h8
       clear h8
       clear D A xj xk
       rw [if_pos (by rfl)];unfold Oper.wp;go_simp
       exact ⟨upd f 11 (f 9),by simp [upd,g8],zX (M xv) 11 _ (by decide) (fun _=>rfl) (bL (d:=2) rfl (by rw [g8]; exact M H8))⟩
      | n + 12,Y=>simp at Y
    ·rintro x hR V ⟨f,rfl,A⟩ hx xK
     have xm:=zL xK hx (by kernel_rfl)
     obtain ⟨hE8,a8,c8,e8⟩:=cx_sp (d:=2) (A.c 11 (xm 11 (by simp))) rfl
     have uY:=A.r (xm 10 (by simp))
     obtain ⟨v4,hv4,ka⟩:∃ v4,v4 = .slice (some (J g 0)) l.length c6∧ORow V qt.heap.size v4 sL:=⟨_,rfl,cw (M kQ) A.k hRS⟩
     have g3:f 3 = .agg #[H next,.slice (some (J g 0)) l.length c6]:=zV (A.c 3 (xm 3 (by simp))) rfl rfl
     simp only [g3,aggL] at uY
     rw [← hv4] at uY
     clear g3
     have HO:Hid (ORow V w.heap.size v4 _∧ERow V w.heap.size (.slice a8 _ c8) _):=⟨zA ka (by omega),zA (e8 ▸ hE8) (by omega)⟩
     have xo:Hid (yl w V):=⟨A.k.os.trans (M xJ).os,A.k.tape.trans (M xJ).tape,A.k.output.trans (M xJ).output,yK (M xJ).size A.k.size,fun k hk=>(A.k.block k (yG hk (M xJ).size) (by omega)).trans ((M xJ).block k hk)⟩
     have d0:V.cell? (J (w.heap.size + 1 + 1) 0) = some (H next):=uY 0 _ rfl
     have d1:V.cell? (J (w.heap.size + 1 + 1) 1) = some v4:=uY 1 _ rfl
     simp only [e8]
     generalize f 0 = w0,f 1 = w1,f 2 = w2,f 3 = w3,f 4 = w4,f 5 = w5,f 6 = w6,f 7 = w7,f 8 = w8,f 9 = w9
     clear A xm xK hx uY hE8 ka
     go_wp2_with fail
     try simp only [Exit.inBlock,Exit.then]
     refine bodyPost_ret (by simp [results,Tryz.results44,go_sem,d0,d1]; try rfl) rfl ?_
     obtain ⟨rfl,rfl⟩:=M ux
     exact ⟨_,_,rfl,(M HO).1,(M HO).2,M xo⟩
   ·exact absurd (M um).2 (by decide)
  ·have kK:=uR
   have qz:(rr == 0) = false:=by rw [xa]; exact uR
   have ux:Hid (sN = next∧sL = l∧sE = [⟨2,⟨kk,s,ty,li,X,ii,pr,cutB O⟩,0,0,0,0,rr⟩]):=⟨by rw [M uB,if_neg (fun h=>uR h.1)],by rw [M uo,if_neg uR],by rw [M uA,if_neg uR]⟩
   skip
   exact absurd (M um).1 kK
 rcases M uW with hs | ⟨ad,nn,cc,hs⟩
 ·simp only [Value.slice.injEq] at hs
  obtain ⟨rfl,oT,rfl⟩:=hs
  obtain rfl:=List.length_eq_zero_iff.1 oT
  obtain ⟨z0,z1,y0,y1,y2,y3,y4,y5,y6,y7⟩:=M xE qt (Below.refl _ _)
  have vB:=Q (World.ownsRow_made (base:=qt.heap.size) (e:=49) (size:=6) qt #[] 0 tg (by decide) rfl)
  have hzX:World.cell? (qt.alloc (E #[] 49)) (yn w 1) = some (.slice none 0 0):=(M xE _ (eD _ _)).2.1
  have kD:=Q HT
  clear HT hK
  go_wp2_with (at_builtin; go_must (refine wpList_append_own_none rfl _ _ 26 rfl qt.heap.size 49 i0 6 Tryz.underlying26 uv (.slice (some (yn qt 0)) 0 0) 0 [] rfl (M vB) rfl ?_))
  exact M kD _ _ _ (M vB) (eD _ _)
 ·simp only [Value.slice.injEq] at hs
  obtain ⟨rfl,rfl,rfl⟩:=hs
  obtain ⟨z0,z1,y0,y1,y2,y3,y4,y5,y6,y7⟩:=M xE qt (Below.refl _ _)
  have uF:Hid (yl qt (qt.alloc (E #[] 49))):=eD _ _
  have vB:=Q (World.ownsRow_made (base:=qt.heap.size) (e:=49) (size:=6) qt #[] 0 tg (by decide) rfl)
  have hzX:World.cell? (qt.alloc (E #[] 49)) (yn w 1) = some (.slice (some ad) l.length F):=(M xE _ (M uF)).2.1
  have uQ:Hid (∀ j u,(l.flatMap Od.vs)[j]? = some u→World.cell? (qt.alloc (E #[] 49)) (ad.add j) = some u):=rd_src (zh (M HR) ((M HB).2.2.2.2.2.trans ((M uF).mono (M HB).2.2.2.2.2.size)) tg)
  have kD:=Q HT
  clear HT hK
  go_wp2_with (at_builtin; go_must (refine wpList_append_own _ rfl _ _ 26 rfl qt.heap.size 49 i0 _ 6 56 Tryz.underlying26 uv uq uw uM rfl (by decide) (.slice (some (yn qt 0)) 0 0) 0 [] rfl (M vB) ad l.length F (l.flatMap Od.vs) rfl (by rw [zM Od.len]) (M uQ) (bh l) (by unfold maxLen; omega) (by omega) (M uF).size ?_); intro v1 w1 uP oo _; have uZ:=Q uP; have kg:=Q oo; clear uP oo)
  have pU:Hid (ORow w1 qt.heap.size v1 l):=by
   show w1.ownsRow _ _ _ _ l.length _
   simpa using M uZ
  obtain ⟨a6,c6,hv⟩:=zO (M pU)
  subst hv
  exact M kD _ _ _ (M pU) ((M uF).grown (M kg) (M uF).size (fun k hk=>((M vB).lt k hk).1))
end Go.Proofs.YtbakanofkghmiaaGreat
