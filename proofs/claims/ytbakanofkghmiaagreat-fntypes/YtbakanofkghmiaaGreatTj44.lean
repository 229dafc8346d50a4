/-
  A command done on a book, by the model: proved by walking the function.
-/
import Derived.Test.YtbakanofkghmiaaGreatTj42
set_option linter.unusedVariables false
set_option maxHeartbeats 6400000
set_option maxRecDepth 100000
namespace Go.Proofs.YtbakanofkghmiaaGreat
open Go.RowKit
theorem l04Step_d (next:Int) (vb:Value) (l:List Od) (c:Cm) (w:World) (qO:refR next l c = 0∧c.k = 3) (hr:RdR Od.vs 6 w vb l) (hs:SlOk vb) (hg:GoodL l) (uD:∀ x ∈ l,x.side = 1 ∨ x.side = 2) (h0:0 ≤ next) (Q:next ≤ 1000000) (ht:c.g.size ≤ maxLen) :
  Calls Tryz.prog 44 #[.agg #[H next,vb],cmV c] w fun e w'=>∃ vq vg,e = yl (.tuple #[.agg #[H (stN next l c),vq],vg])∧ORow w' w.heap.size vq (stL next l c)∧ERow w' w.heap.size vg (stE next l c)∧ym w w':=by
 obtain ⟨i0,uz,uA,uF,uR⟩:=info_parts Tryz.infoOrder
 obtain ⟨j0,jn,jz,kJ,hy2⟩:=info_parts infoEv
 have HR:=Y hr
 have vH:=Y hs
 have HG:=Y hg
 have qF:=Y ht
 have vF:=hg.len
 have uB:Hid (0 ≤ next∧next ≤ 1000000):=⟨h0,Q⟩
 have uK:=Y (fun (W:World) hW=>cD next vb l c W hW hs hg uD ht)
 rw [ref_eq] at uK
 have HK:=Y (@bN next l c)
 have HQ:=Y (@bC next l c)
 have qA:=Y (@ref_id next l c)
 have jt:=Y (@ref_newS next l c)
 have ux:=Y qO
 clear qO
 have uZ:Hid (stN next l c = if refR next l c = 0∧c.k = 1 then next + 1 else next):=rfl
 have uy:=Y (stL.eq_1 next l c)
 have uY:=Y (stE.eq_1 next l c)
 have kW:=Y (fun W=>cC c W ht)
 have qE:=Y (fun (a:Option Addr) (n E:Nat) (W:World)=>bW next a n E c W)
 have jR:=Y (fun (v:Value) (W:World) hr hs hp jf qW=>bV v l c next W hr hg hs hp jf qW)
 obtain ⟨a,E,rfl,vA,hc⟩:=hr
 obtain ⟨kk,s,ty,li,O,ii,pr,K⟩:=c
 generalize stN next l ⟨kk,s,ty,li,O,ii,pr,K⟩ = sN at uZ ⊢
 generalize stL next l ⟨kk,s,ty,li,O,ii,pr,K⟩ = sL at uy ⊢
 generalize stE next l ⟨kk,s,ty,li,O,ii,pr,K⟩ = sE at uY ⊢
 generalize refR next l ⟨kk,s,ty,li,O,ii,pr,K⟩ = rr at uK uZ uy uY HK HQ qA jt ux
 unfold cmV at uK qE ⊢
 simp only at uK uZ uy uY HK HQ qA jt kW qE jR qF ux ⊢
 have HB:=Y (box3 w [H next,.slice a l.length E] (yv kk s ty li O ii pr K) [H 0,.slice none 0 0] 28 43 28)
 clear hs hg uD h0 Q ht hc vA
 go_enter Tryz.func44,Tryz.ntmps44
 refine ds fun tg xq=>?_
 go_wp2_with fail
 refine U xq _ _ ?_
 clear xq
 change Hid ((((w.alloc (D #[H next,.slice a l.length E] 28)).alloc (D (yv kk s ty li O ii pr K).toArray 43)).alloc (D #[H 0,.slice none 0 0] 28)).heap.size = w.heap.size + 3∧World.rangeAt (((w.alloc (D #[H next,.slice a l.length E] 28)).alloc (D (yv kk s ty li O ii pr K).toArray 43)).alloc (D #[H 0,.slice none 0 0] 28)) w.heap.size 0 [H next,.slice a l.length E]∧World.rangeAt (((w.alloc (D #[H next,.slice a l.length E] 28)).alloc (D (yv kk s ty li O ii pr K).toArray 43)).alloc (D #[H 0,.slice none 0 0] 28)) (w.heap.size + 1) 0 (yv kk s ty li O ii pr K)∧World.rangeAt (((w.alloc (D #[H next,.slice a l.length E] 28)).alloc (D (yv kk s ty li O ii pr K).toArray 43)).alloc (D #[H 0,.slice none 0 0] 28)) (w.heap.size + 1 + 1) 0 [H 0,.slice none 0 0]∧World.there (((w.alloc (D #[H next,.slice a l.length E] 28)).alloc (D (yv kk s ty li O ii pr K).toArray 43)).alloc (D #[H 0,.slice none 0 0] 28)) (w.heap.size + 1 + 1) 0 2∧ym w (((w.alloc (D #[H next,.slice a l.length E] 28)).alloc (D (yv kk s ty li O ii pr K).toArray 43)).alloc (D #[H 0,.slice none 0 0] 28))) at HB
 generalize (((w.alloc (D #[H next,.slice a l.length E] 28)).alloc (D (yv kk s ty li O ii pr K).toArray 43)).alloc (D #[H 0,.slice none 0 0] 28)) = hD at HB ⊢
 have xI:Hid (∀ W:World,ym hD W→W.cell? (yp w 0) = some (H next)∧W.cell? (yp w 1) = some (.slice a l.length E)∧W.cell? (J (w.heap.size + 1) 0) = some (H kk)∧W.cell? (J (w.heap.size + 1) 1) = some (H s)∧W.cell? (J (w.heap.size + 1) 2) = some (H ty)∧W.cell? (J (w.heap.size + 1) 3) = some (H li)∧W.cell? (J (w.heap.size + 1) 4) = some (H O)∧W.cell? (J (w.heap.size + 1) 5) = some (H ii)∧W.cell? (J (w.heap.size + 1) 6) = some (yi pr)∧W.cell? (J (w.heap.size + 1) 7) = some (yj K)):=fun W hW =>
  have p:=zb (U HB).2.1 hW (by have:=(U HB).1; omega)
  have q:=zb (U HB).2.2.1 hW (by have:=(U HB).1; omega)
  ⟨p 0 _ rfl,p 1 _ rfl,q 0 _ rfl,q 1 _ rfl,q 2 _ rfl,q 3 _ rfl,q 4 _ rfl,q 5 _ rfl,q 6 _ rfl,q 7 _ rfl⟩
 have vK:w.heap.size + 1 + 1 < hD.heap.size:=by have:=(U HB).1; omega
 refine wp_seq_k fun tg hK=>?_
 have HT:∀ (a6:Option Addr) (c6:Nat) (w1:World),ORow w1 hD.heap.size (.slice a6 l.length c6) l→ym hD w1→tg { tmps:=#[.agg #[H next,.slice a l.length E],.agg (yv kk s ty li O ii pr K).toArray,yn w 0,I (w.heap.size + 1) 0,I (w.heap.size + 1 + 1) 0,.slice none 0 0,.slice a6 l.length c6,M,M,M,M,M,M,M,M,M,M,M,.slice (some (yp hD 0)) 0 0,yn w 1,.slice a l.length E,.slice a6 l.length c6,M,M,M,M,M,M,M,M,M,M,M,M,M,M,M,M,M,M,M,M,M,M,M,M,M,M,M,M,M,M,M,M,M,M,M,M,M,M,M,M,M,M,M,M,M,M,M,M,M,M,M,M,M,M,M,M,M,M,M,M,M,M,M,M,M,M,M,M,M,M,M,M,M,M,M,M,M,M,M,M,M,M,M,M,M,M,M,M,M,M,M,M,M,M,M,M,M,M,M,M,M,M,M,M,M,M,M,M,M,M,M,M,M,M,M,M,M,M,M,M,M,M,M,M,M,M,M,M,M,M,M,M,M,M,M,M,M,M,M,M,M,M,M,M,M,M,M,M,M],defers:=[] } w1:=by
  intro a6 c6 w1 vR xS
  refine hK _ _ ?_
  clear hK
  have vh:=Y vR
  have xT:=Y xS
  clear vR xS
  obtain ⟨z0,z1,y0,y1,y2,y3,y4,y5,y6,y7⟩:=U xI w1 (U xT)
  refine ds fun tg xq=>?_
  go_wp2_with fail
  refine (U uK w1 (zl (U HR) ((U HB).2.2.2.2.2.trans ((U xT).mono (U HB).2.2.2.2.2.size)) qt)).mono ?_
  rintro e w2 ⟨rfl,xU⟩
  have vL:=Y (zk (U vh) xU)
  have xC:=Y (dq (U xT) xU)
  clear z0 z1 y0 y1 y2 y3 y4 y5 y6 y7 xU vh
  obtain ⟨z0,z1,y0,y1,y2,y3,y4,y5,y6,y7⟩:=U xI w2 (U xC)
  have vN:=Y (ze (U HB).2.2.2.2.1 (U xC) vK)
  have oa:w.heap.size + 1 + 1 < w2.heap.size:=yH vK (U xC).size
  have xJ:=Y ((U HB).2.2.2.2.2.trans ((U xC).mono (U HB).2.2.2.2.2.size))
  have hXw:w.heap.size ≤ hD.heap.size:=by omega
  have hX2:hD.heap.size ≤ w2.heap.size:=(U xC).size
  have kP:=hX2
  by_cases uX:rr = 0
  ·subst uX
   have pl:=U HK rfl
   rcases pl with rfl | rfl | rfl | rfl
   ·exact absurd (U ux).2 (by decide)
   ·exact absurd (U ux).2 (by decide)
   ·obtain ⟨k,o,pp,jp⟩:=U qA rfl (by simp)
    have qL:(plc l ii).toNat = k:=by rw [pp]; rfl
    have xA:l ≠ []:=by rintro rfl; simp at jp
    have kc:=(yE.1 jp).1
    have uE:Hid (sN = next∧sE = [⟨7,zCm,ii,0,O,0,0⟩]):=⟨by rw [U uZ,if_neg (fun h=>by have:=h.2; omega)],by rw [U uY,if_pos rfl,if_neg (by omega),if_neg (by omega),if_pos rfl]⟩
    have HLD:Hid (l.set k { o with left:=O } = sL):=by show _ = _; rw [U uy,if_pos rfl,if_neg (by omega),if_neg (by omega),if_pos rfl]; simp only [qL,jp]
    have HPK:=Y pp
    have HLO:=Y jp
    clear pp jp qL uZ uy uY HQ qA HK jt qE jR kW
    obtain ⟨g,cp,hv6,vO,hBg,hgw⟩:=ch (U vL) xA
    simp only [Value.slice.injEq] at hv6
    obtain ⟨rfl,-,rfl⟩:=hv6
    go_wp2_with fail
    refine U xq _ _ ?_
    clear xq
    go_wp2_with fail
    refine (bX _ l ii w2 (zK (U vL) (by omega))).mono ?_
    rw [U HPK]
    rintro e w3 ⟨rfl,uC⟩
    have qD:=Y (zk (U vL) uC)
    have xW:=Y (dq (U xC) uC)
    clear uC z0 z1 y0 y1 y2 y3 y4 y5 y6 y7 vN xJ oa kP
    have vN:=Y (ze (U HB).2.2.2.2.1 (U xW) vK)
    have oa:w.heap.size + 1 + 1 < w3.heap.size:=yH vK (U xW).size
    have xJ:=Y ((U HB).2.2.2.2.2.trans ((U xW).mono (U HB).2.2.2.2.2.size))
    have kP:hD.heap.size ≤ w3.heap.size:=(U xW).size
    obtain ⟨z0,z1,y0,y1,y2,y3,y4,y5,y6,y7⟩:=U xI w3 (U xW)
    have uQ:=row_here (U qD) (by omega) (U HLO)
    have hkl':(k:Int) < l.length:=by omega
    have hk0:(0:Int) ≤ k:=by omega
    have hgR:g ≠ w.heap.size + 1 + 1:=by omega
    have hRS:w.heap.size + 1 + 1 < hD.heap.size:=vK
    have hG3:w3.cell? (J g (k * 6 + 3)) = some (H o.left):=uQ.1 3 _ rfl
    have hF3:w3.frozen? (J g (k * 6 + 3)) = false:=uQ.2 3 (by omega)
    clear uQ
    have kM:Hid (ORow (w3.setCell (J g (k * 6 + 3)) (H O)) hD.heap.size (.slice (some (J g 0)) l.length c6) sL):=by have:=(oRow_left (U qD) rfl (U HLO) O).1; rw [U HLD] at this; exact this
    have uk:Hid (ym hD (w3.setCell (J g (k * 6 + 3)) (H O))):=(U xW).setCell (p:=(J g (k * 6 + 3))) hBg _
    go_wp2_with fail
    clear z0 z1 y0 y1 y2 y3 y4 y5 y6 y7 hG3 hF3 vN xJ oa kP
    generalize (w3.setCell (J g (k * 6 + 3)) (H O)) = w4 at kM uk ⊢
    have vN:=Y (ze (U HB).2.2.2.2.1 (U uk) vK)
    have oa:w.heap.size + 1 + 1 < w4.heap.size:=yH vK (U uk).size
    have xJ:=Y ((U HB).2.2.2.2.2.trans ((U uk).mono (U HB).2.2.2.2.2.size))
    have kP:hD.heap.size ≤ w4.heap.size:=(U uk).size
    obtain ⟨z0,z1,y0,y1,y2,y3,y4,y5,y6,y7⟩:=U xI w4 (U uk)
    have HZ0:=Y z0
    have HZ1:=Y z1
    have HY0:=Y y0
    have HY1:=Y y1
    have HY2:=Y y2
    have HY3:=Y y3
    have HY4:=Y y4
    have HY5:=Y y5
    have HY6:=Y y6
    have HY7:=Y y7
    go_wp2_with fail
    clear z0 z1 y0 y1 y2 y3 y4 y5 y6 y7
    refine zh (RXA (fun f=>{ tmps:=#[.agg #[H next,.slice a l.length E],.agg (yv 3 s ty li O ii pr K).toArray,yn w 0,I (w.heap.size + 1) 0,I (w.heap.size + 1 + 1) 0,f 11,.slice (some (J g 0)) l.length c6,H 0,H k,M,M,M,M,M,M,M,M,M,.slice (some (yp hD 0)) 0 0,yn w 1,.slice a l.length E,.slice (some (J g 0)) l.length c6,.agg #[H next,.slice a l.length E],.agg (yv 3 s ty li O ii pr K).toArray,H 0,H 0,.bool false,M,M,M,M,M,M,M,M,M,.slice (some (J g 0)) l.length c6,I (w.heap.size + 1) 5,H ii,H k,I (w.heap.size + 1) 0,H 3,.bool false,.bool false,M,M,M,M,M,M,M,M,M,M,M,M,M,M,M,M,.bool true,.bool true,.slice (some (J g 0)) l.length c6,H k,I (w.heap.size + 1) 4,H O,I g (k * 6),I g (k * 6 + 3),f 0,f 1,f 2,f 3,f 4,f 5,f 6,f 7,f 8,f 9,M,M,M,M,M,M,M,M,M,M,M,M,M,M,M,M,M,M,M,M,M,M,M,M,M,M,M,M,M,M,M,M,M,M,M,M,M,M,M,M,M,M,M,M,M,M,M,M,M,M,M,M,M,M,M,M,M,M,M,M,M,M,M,M,M,M,M,M,M,M,M,M,M,M,M,M,M,M,M,M,M,M,M,M,M,M,M,M,M,M,M,M,M],defers:=[] }) (CX [yn w 0,H next,.slice (some (J g 0)) l.length c6,.agg #[H next,.slice (some (J g 0)) l.length c6],I (w.heap.size + 1) 5,H ii,I (w.heap.size + 1) 4,H O,.agg (yt 7 0 0 0 0 0 0 0 ⟨#[]⟩ ii 0 O 0 0).toArray,M,M,M] [(9,2),(10,9),(11,2)] (hD.heap.size) (next) (sL) ([⟨7,zCm,ii,0,O,0,0⟩])) (w.heap.size + 1 + 1) 2 10 (fun f=>aggL (f 3)) w4) (by kernel_rfl) ?_ ?_ ?_
    ·exact ⟨fun j=>if j = 11 then .slice none 0 0 else M,rfl,rx_start oa (U vN)⟩
    rotate_left
    ·rintro x hR V i op ⟨f,rfl,A⟩ L hx Z xu G
     have xw:=Y A
     have xk:∀ (p:Addr) u,w4.cell? p = some u→p.block ≠ w.heap.size + 1 + 1→V.cell? p = some u:=fun p u hu hp=>kb_cell A.k hu hp
     match i,Z with
      | 0,Z =>
       obtain rfl:=ya Z
       clear G A xk L
       rw [if_pos (by rfl)];unfold Oper.wp;go_simp
       exact ⟨upd f 0 (yn w 0),by simp [upd],pQ (U xw) 0 _ (by decide) (fun _=>rfl) (zT rfl rfl)⟩
      | 1,Z =>
       obtain rfl:=ya Z
       have g0:f 0 = yn w 0:=zP (A.c 0 (yd G 0 rfl)) rfl rfl
       have z0:=xk (yp w 0) _ (U HZ0) (show w.heap.size ≠ w.heap.size + 1 + 1 by omega)
       clear G A xk L
       rw [if_pos (by rfl)];unfold Oper.wp;go_simp
       exact ⟨upd f 1 (H next),by simp [upd,g0],pQ (U xw) 1 _ (by decide) (fun _=>rfl) (zT rfl rfl)⟩
      | 2,Z =>
       obtain rfl:=ya Z
       clear G A xk L
       rw [if_pos (by rfl)];unfold Oper.wp;go_simp
       exact ⟨upd f 2 (.slice (some (J g 0)) l.length c6),by simp [upd],pQ (U xw) 2 _ (by decide) (fun _=>rfl) (zT rfl rfl)⟩
      | 3,Z =>
       obtain rfl:=ya Z
       have g1:f 1 = H next:=zP (A.c 1 (yd G 1 rfl)) rfl rfl
       have g2:f 2 = .slice (some (J g 0)) l.length c6:=zP (A.c 2 (yd G 2 rfl)) rfl rfl
       have hcl0:=L
       clear G A xk L
       rw [if_pos (by rfl)];unfold Oper.wp;go_simp
       exact ⟨upd f 3 (.agg #[H next,.slice (some (J g 0)) l.length c6]),by simp [upd,g1,g2],pQ (U xw) 3 _ (by decide) (fun h=>by rw [zv hcl0 12 3 10 (by kernel_rfl) hx (by simp) xu] at h; cases h) (zT rfl rfl)⟩
      | 4,Z =>
       obtain rfl:=ya Z
       clear G A xk L
       rw [if_pos (by rfl)];unfold Oper.wp;go_simp
       exact ⟨upd f 4 (I (w.heap.size + 1) 5),by simp [upd],pQ (U xw) 4 _ (by decide) (fun _=>rfl) (zT rfl rfl)⟩
      | 5,Z =>
       obtain rfl:=ya Z
       have g4:f 4 = I (w.heap.size + 1) 5:=zP (A.c 4 (yd G 4 rfl)) rfl rfl
       have y5:=xk (J (w.heap.size + 1) 5) _ (U HY5) (show w.heap.size + 1 ≠ w.heap.size + 1 + 1 by omega)
       clear G A xk L
       rw [if_pos (by rfl)];unfold Oper.wp;go_simp
       exact ⟨upd f 5 (H ii),by simp [upd,g4],pQ (U xw) 5 _ (by decide) (fun _=>rfl) (zT rfl rfl)⟩
      | 6,Z =>
       obtain rfl:=ya Z
       clear G A xk L
       rw [if_pos (by rfl)];unfold Oper.wp;go_simp
       exact ⟨upd f 6 (I (w.heap.size + 1) 4),by simp [upd],pQ (U xw) 6 _ (by decide) (fun _=>rfl) (zT rfl rfl)⟩
      | 7,Z =>
       obtain rfl:=ya Z
       have g6:f 6 = I (w.heap.size + 1) 4:=zP (A.c 6 (yd G 6 rfl)) rfl rfl
       have y4:=xk (J (w.heap.size + 1) 4) _ (U HY4) (show w.heap.size + 1 ≠ w.heap.size + 1 + 1 by omega)
       clear G A xk L
       rw [if_pos (by rfl)];unfold Oper.wp;go_simp
       exact ⟨upd f 7 (H O),by simp [upd,g6],pQ (U xw) 7 _ (by decide) (fun _=>rfl) (zT rfl rfl)⟩
      | 8,Z =>
       obtain rfl:=ya Z
       have g5:f 5 = H ii:=zP (A.c 5 (yd G 5 rfl)) rfl rfl
       have g7:f 7 = H O:=zP (A.c 7 (yd G 7 rfl)) rfl rfl
       clear G A xk L
       rw [if_pos (by rfl)];unfold Oper.wp;go_simp
       exact ⟨upd f 8 (.agg (yt 7 0 0 0 0 0 0 0 ⟨#[]⟩ ii 0 O 0 0).toArray),by simp [upd,g5,g7],pQ (U xw) 8 _ (by decide) (fun _=>rfl) (zT rfl rfl)⟩
      | 9,Z =>
       obtain rfl:=ya Z
       have g8:f 8 = .agg (yt 7 0 0 0 0 0 0 0 ⟨#[]⟩ ii 0 O 0 0).toArray:=zP (A.c 8 (yd G 8 rfl)) rfl rfl
       have qN:=yL kP A.k.size
       clear G A xk L
       rw [if_pos (by rfl)];unfold Oper.wp;go_simp
       exact ⟨upd f 9 (.slice (some (yp V 0)) 1 1),by simp [upd,g8],pQ (rx_grow (bG hRS) (U xw) (dm _ _)) 9 _ (by decide) (fun _=>rfl) (aO (d:=2) rfl ⟨eRow_one V ⟨7,zCm,ii,0,O,0,0⟩ qN,_,_,rfl⟩)⟩
      | 10,Z =>
       obtain rfl:=ya Z
       have g0:f 3 = .agg #[H next,.slice (some (J g 0)) l.length c6]:=zP (A.c 3 (yd G 3 rfl)) rfl rfl
       obtain ⟨y0,z0,q0⟩:=zc A.t (j:=0) (by omega)
       obtain ⟨y1,z1,q1⟩:=zc A.t (j:=1) (by omega)
       clear G A xk L
       rw [if_pos (by rfl)];unfold Oper.wp;go_simp
       have vy:=rx_store (bG hRS) (U xw) xu (by simp [g0,aggL]) (fun _ _=>aO (d:=9) rfl trivial)
       simp only [g0,aggL] at vy
       exact ⟨f,by simp [g0],vy⟩
      | 11,Z =>
       obtain rfl:=ya Z
       have h8:=cx_sp (d:=2) (A.c 9 (yd G 9 rfl)) rfl
       obtain ⟨a8,c8,g8⟩:=h8.2
       rw [g8] at h8
       have H8:=Y h8
       clear h8
       clear G A xk L
       rw [if_pos (by rfl)];unfold Oper.wp;go_simp
       exact ⟨upd f 11 (f 9),by simp [upd,g8],pQ (U xw) 11 _ (by decide) (fun _=>rfl) (aO (d:=2) rfl (by rw [g8]; exact U H8))⟩
      | n + 12,Z=>simp at Z
    ·rintro x hR V ⟨f,rfl,A⟩ hx xM
     have xn:=zO xM hx (by kernel_rfl)
     obtain ⟨hE8,a8,c8,e8⟩:=cx_sp (d:=2) (A.c 11 (xn 11 (by simp))) rfl
     have vG:=A.r (xn 10 (by simp))
     obtain ⟨v4,hv4,pN⟩:∃ v4,v4 = .slice (some (J g 0)) l.length c6∧ORow V hD.heap.size v4 sL:=⟨_,rfl,kb_row (U kM) A.k hRS⟩
     have g3:f 3 = .agg #[H next,.slice (some (J g 0)) l.length c6]:=zP (A.c 3 (xn 3 (by simp))) rfl rfl
     simp only [g3,aggL] at vG
     rw [← hv4] at vG
     clear g3
     have HO:Hid (ORow V w.heap.size v4 _∧ERow V w.heap.size (.slice a8 _ c8) _):=⟨zF pN (by omega),zF (e8 ▸ hE8) (by omega)⟩
     have xr:Hid (ym w V):=⟨A.k.os.trans (U xJ).os,A.k.tape.trans (U xJ).tape,A.k.output.trans (U xJ).output,yL (U xJ).size A.k.size,fun k hk=>(A.k.block k (yH hk (U xJ).size) (by omega)).trans ((U xJ).block k hk)⟩
     have d0:V.cell? (J (w.heap.size + 1 + 1) 0) = some (H next):=vG 0 _ rfl
     have d1:V.cell? (J (w.heap.size + 1 + 1) 1) = some v4:=vG 1 _ rfl
     simp only [e8]
     generalize f 0 = w0,f 1 = w1,f 2 = w2,f 3 = w3,f 4 = w4,f 5 = w5,f 6 = w6,f 7 = w7,f 8 = w8,f 9 = w9
     clear A xn xM hx vG hE8 pN
     go_wp2_with fail
     try simp only [Exit.inBlock,Exit.then]
     refine bodyPost_ret (by simp [results,Tryz.results44,go_sem,d0,d1]; try rfl) rfl ?_
     obtain ⟨rfl,rfl⟩:=U uE
     exact ⟨_,_,rfl,(U HO).1,(U HO).2,U xr⟩
   ·exact absurd (U ux).2 (by decide)
  ·have kH:=uX
   have qz:(rr == 0) = false:=by rw [xb]; exact uX
   have uE:Hid (sN = next∧sL = l∧sE = [⟨2,⟨kk,s,ty,li,O,ii,pr,cutB K⟩,0,0,0,0,rr⟩]):=⟨by rw [U uZ,if_neg (fun h=>uX h.1)],by rw [U uy,if_neg uX],by rw [U uY,if_neg uX]⟩
   skip
   exact absurd (U ux).1 kH
 rcases U vH with hs | ⟨ad,nn,cc,hs⟩
 ·simp only [Value.slice.injEq] at hs
  obtain ⟨rfl,oo,rfl⟩:=hs
  obtain rfl:=List.length_eq_zero_iff.1 oo
  obtain ⟨z0,z1,y0,y1,y2,y3,y4,y5,y6,y7⟩:=U xI hD (Below.refl _ _)
  have vC:=Y (World.ownsRow_made (base:=hD.heap.size) (e:=49) (size:=6) hD #[] 0 qt (by decide) rfl)
  have hzX:World.cell? (hD.alloc (D #[] 49)) (yp w 1) = some (.slice none 0 0):=(U xI _ (dm _ _)).2.1
  have kB:=Y HT
  clear HT hK
  go_wp2_with (at_builtin; go_must (refine wpList_append_own_none rfl _ _ 26 rfl hD.heap.size 49 i0 6 Tryz.underlying26 uz (.slice (some (yp hD 0)) 0 0) 0 [] rfl (U vC) rfl ?_))
  exact U kB _ _ _ (U vC) (dm _ _)
 ·simp only [Value.slice.injEq] at hs
  obtain ⟨rfl,rfl,rfl⟩:=hs
  obtain ⟨z0,z1,y0,y1,y2,y3,y4,y5,y6,y7⟩:=U xI hD (Below.refl _ _)
  have uJ:Hid (ym hD (hD.alloc (D #[] 49))):=dm _ _
  have vC:=Y (World.ownsRow_made (base:=hD.heap.size) (e:=49) (size:=6) hD #[] 0 qt (by decide) rfl)
  have hzX:World.cell? (hD.alloc (D #[] 49)) (yp w 1) = some (.slice (some ad) l.length E):=(U xI _ (U uJ)).2.1
  have uU:Hid (∀ j u,(l.flatMap Od.vs)[j]? = some u→World.cell? (hD.alloc (D #[] 49)) (ad.add j) = some u):=rd_src (zl (U HR) ((U HB).2.2.2.2.2.trans ((U uJ).mono (U HB).2.2.2.2.2.size)) qt)
  have kB:=Y HT
  clear HT hK
  go_wp2_with (at_builtin; go_must (refine wpList_append_own _ rfl _ _ 26 rfl hD.heap.size 49 i0 _ 6 56 Tryz.underlying26 uz uA uF uR rfl (by decide) (.slice (some (yp hD 0)) 0 0) 0 [] rfl (U vC) ad l.length E (l.flatMap Od.vs) rfl (by rw [zH Od.len]) (U uU) (aA l) (by unfold maxLen; omega) (by omega) (U uJ).size ?_); intro v1 w1 uT qd _; have vh:=Y uT; have kh:=Y qd; clear uT qd)
  have pD:Hid (ORow w1 hD.heap.size v1 l):=by
   show w1.ownsRow _ _ _ _ l.length _
   simpa using U vh
  obtain ⟨a6,c6,hv⟩:=zQ (U pD)
  subst hv
  exact U kB _ _ _ (U pD) ((U uJ).grown (U kh) (U uJ).size (fun k hk=>((U vC).lt k hk).1))
end Go.Proofs.YtbakanofkghmiaaGreat
