/-
  A command done on a book, by the model: proved by walking the function.
-/
import Derived.Test.YtdliebbfcmdmaaaGreatMj42
set_option linter.unusedVariables false
set_option maxHeartbeats 6400000
set_option maxRecDepth 100000
namespace Go.Proofs.YtdliebbfcmdmaaaGreat
open Go.RowKit
theorem l04Step_d (next:Int) (vb:Value) (l:List Od) (c:Cm) (w:World) (qU:refR next l c = 0∧c.k = 3) (hr:RdR Od.vs 6 w vb l) (hs:SlOk vb) (hg:GoodL l) (uF:∀ x ∈ l,x.side = 1 ∨ x.side = 2) (h0:0 ≤ next) (Q:next ≤ 1000000) (ht:c.g.size ≤ maxLen) :
  Calls Tryz.prog 36 #[.agg #[H next,vb],cmV c] w fun e w'=>∃ vq vg,e = ym (.tuple #[.agg #[H (stN next l c),vq],vg])∧ORow w' w.heap.size vq (stL next l c)∧ERow w' w.heap.size vg (stE next l c)∧yn w w':=by
 obtain ⟨i0,uE,uA,uC,uM⟩:=info_parts Tryz.infoOrder
 obtain ⟨j0,jd,pO,hy1,hy2⟩:=info_parts infoEv
 have HR:=Y hr
 have vR:=Y hs
 have HG:=Y hg
 have qI:=Y ht
 have vO:=hg.len
 have uG:Hid (0 ≤ next∧next ≤ 1000000):=⟨h0,Q⟩
 have uO:=Y (fun (W:World) hW=>cV next vb l c W hW hs hg uF ht)
 rw [ref_eq] at uO
 have HK:=Y (@cN next l c)
 have HQ:=Y (@bY next l c)
 have qH:=Y (@ref_id next l c)
 have jB:=Y (@ref_newS next l c)
 have uz:=Y qU
 clear qU
 have vl:Hid (stN next l c = if refR next l c = 0∧c.k = 1 then next + 1 else next):=rfl
 have uD:=Y (stL.eq_1 next l c)
 have vk:=Y (stE.eq_1 next l c)
 have oA:=Y (fun W=>dk c W ht)
 have qM:=Y (fun (a:Option Addr) (n A:Nat) (W:World)=>cY next a n A c W)
 have kh:=Y (fun (v:Value) (W:World) hr hs hp jm jn=>cX v l c next W hr hg hs hp jm jn)
 obtain ⟨a,A,rfl,vI,hc⟩:=hr
 obtain ⟨kk,s,X,li,F,ii,pr,O⟩:=c
 generalize stN next l ⟨kk,s,X,li,F,ii,pr,O⟩ = sN at vl ⊢
 generalize stL next l ⟨kk,s,X,li,F,ii,pr,O⟩ = sL at uD ⊢
 generalize stE next l ⟨kk,s,X,li,F,ii,pr,O⟩ = sE at vk ⊢
 generalize refR next l ⟨kk,s,X,li,F,ii,pr,O⟩ = rr at uO vl uD vk HK HQ qH jB uz
 unfold cmV at uO qM ⊢
 simp only at uO vl uD vk HK HQ qH jB oA qM kh qI uz ⊢
 have HB:=Y (box3 w [H next,.slice a l.length A] (yw kk s X li F ii pr O) [H 0,.slice none 0 0] 31 27 31)
 clear hs hg uF h0 Q ht hc vI
 go_enter Tryz.func36,Tryz.ntmps36
 refine ei fun hR xu=>?_
 go_wp2_with fail
 refine U xu _ _ ?_
 clear xu
 change Hid ((((w.alloc (E #[H next,.slice a l.length A] 31)).alloc (E (yw kk s X li F ii pr O).toArray 27)).alloc (E #[H 0,.slice none 0 0] 31)).heap.size = w.heap.size + 3∧World.rangeAt (((w.alloc (E #[H next,.slice a l.length A] 31)).alloc (E (yw kk s X li F ii pr O).toArray 27)).alloc (E #[H 0,.slice none 0 0] 31)) w.heap.size 0 [H next,.slice a l.length A]∧World.rangeAt (((w.alloc (E #[H next,.slice a l.length A] 31)).alloc (E (yw kk s X li F ii pr O).toArray 27)).alloc (E #[H 0,.slice none 0 0] 31)) (w.heap.size + 1) 0 (yw kk s X li F ii pr O)∧World.rangeAt (((w.alloc (E #[H next,.slice a l.length A] 31)).alloc (E (yw kk s X li F ii pr O).toArray 27)).alloc (E #[H 0,.slice none 0 0] 31)) (w.heap.size + 1 + 1) 0 [H 0,.slice none 0 0]∧World.there (((w.alloc (E #[H next,.slice a l.length A] 31)).alloc (E (yw kk s X li F ii pr O).toArray 27)).alloc (E #[H 0,.slice none 0 0] 31)) (w.heap.size + 1 + 1) 0 2∧yn w (((w.alloc (E #[H next,.slice a l.length A] 31)).alloc (E (yw kk s X li F ii pr O).toArray 27)).alloc (E #[H 0,.slice none 0 0] 31))) at HB
 generalize (((w.alloc (E #[H next,.slice a l.length A] 31)).alloc (E (yw kk s X li F ii pr O).toArray 27)).alloc (E #[H 0,.slice none 0 0] 31)) = ty at HB ⊢
 have xM:Hid (∀ W:World,yn ty W→W.cell? (yq w 0) = some (H next)∧W.cell? (yq w 1) = some (.slice a l.length A)∧W.cell? (J (w.heap.size + 1) 0) = some (H kk)∧W.cell? (J (w.heap.size + 1) 1) = some (H s)∧W.cell? (J (w.heap.size + 1) 2) = some (H X)∧W.cell? (J (w.heap.size + 1) 3) = some (H li)∧W.cell? (J (w.heap.size + 1) 4) = some (H F)∧W.cell? (J (w.heap.size + 1) 5) = some (H ii)∧W.cell? (J (w.heap.size + 1) 6) = some (yj pr)∧W.cell? (J (w.heap.size + 1) 7) = some (yk O)):=fun W hW =>
  have p:=zb (U HB).2.1 hW (by have:=(U HB).1; omega)
  have q:=zb (U HB).2.2.1 hW (by have:=(U HB).1; omega)
  ⟨p 0 _ rfl,p 1 _ rfl,q 0 _ rfl,q 1 _ rfl,q 2 _ rfl,q 3 _ rfl,q 4 _ rfl,q 5 _ rfl,q 6 _ rfl,q 7 _ rfl⟩
 have vU:w.heap.size + 1 + 1 < ty.heap.size:=by have:=(U HB).1; omega
 refine wp_seq_k fun hR hK=>?_
 have HT:∀ (a6:Option Addr) (c6:Nat) (w1:World),ORow w1 ty.heap.size (.slice a6 l.length c6) l→yn ty w1→hR { tmps:=#[.agg #[H next,.slice a l.length A],.agg (yw kk s X li F ii pr O).toArray,yp w 0,I (w.heap.size + 1) 0,I (w.heap.size + 1 + 1) 0,.slice none 0 0,.slice a6 l.length c6,M,M,M,M,M,M,M,M,M,M,M,.slice (some (yq ty 0)) 0 0,yp w 1,.slice a l.length A,.slice a6 l.length c6,M,M,M,M,M,M,M,M,M,M,M,M,M,M,M,M,M,M,M,M,M,M,M,M,M,M,M,M,M,M,M,M,M,M,M,M,M,M,M,M,M,M,M,M,M,M,M,M,M,M,M,M,M,M,M,M,M,M,M,M,M,M,M,M,M,M,M,M,M,M,M,M,M,M,M,M,M,M,M,M,M,M,M,M,M,M,M,M,M,M,M,M,M,M,M,M,M,M,M,M,M,M,M,M,M,M,M,M,M,M,M,M,M,M,M,M,M,M,M,M,M,M,M,M,M,M,M,M,M,M,M,M,M,M,M,M,M,M,M,M,M,M,M,M,M,M,M,M,M],defers:=[] } w1:=by
  intro a6 c6 w1 qb xX
  refine hK _ _ ?_
  clear hK
  have vh:=Y qb
  have xW:=Y xX
  clear qb xX
  obtain ⟨z0,z1,y0,y1,y2,y3,y4,y5,y6,y7⟩:=U xM w1 (U xW)
  refine ei fun hR xu=>?_
  go_wp2_with fail
  refine (U uO w1 (zl (U HR) ((U HB).2.2.2.2.2.trans ((U xW).mono (U HB).2.2.2.2.2.size)) tg)).mono ?_
  rintro e w2 ⟨rfl,xZ⟩
  have vW:=Y (zk (U vh) xZ)
  have xF:=Y (eh (U xW) xZ)
  clear z0 z1 y0 y1 y2 y3 y4 y5 y6 y7 xZ vh
  obtain ⟨z0,z1,y0,y1,y2,y3,y4,y5,y6,y7⟩:=U xM w2 (U xF)
  have vX:=Y (zf (U HB).2.2.2.2.1 (U xF) vU)
  have oF:w.heap.size + 1 + 1 < w2.heap.size:=yJ vU (U xF).size
  have xE:=Y ((U HB).2.2.2.2.2.trans ((U xF).mono (U HB).2.2.2.2.2.size))
  have hXw:w.heap.size ≤ ty.heap.size:=by omega
  have hX2:ty.heap.size ≤ w2.heap.size:=(U xF).size
  have ol:=hX2
  by_cases vf:rr = 0
  ·subst vf
   have pF:=U HK rfl
   rcases pF with rfl | rfl | rfl | rfl
   ·exact absurd (U uz).2 (by decide)
   ·exact absurd (U uz).2 (by decide)
   ·obtain ⟨k,o,pI,jw⟩:=U qH rfl (by simp)
    have qS:(plc l ii).toNat = k:=by rw [pI]; rfl
    have xB:l ≠ []:=by rintro rfl; simp at jw
    have kO:=(yG.1 jw).1
    have uI:Hid (sN = next∧sE = [⟨7,zCm,ii,0,F,0,0⟩]):=⟨by rw [U vl,if_neg (fun h=>by have:=h.2; omega)],by rw [U vk,if_pos rfl,if_neg (by omega),if_neg (by omega),if_pos rfl]⟩
    have HLD:Hid (l.set k { o with left:=F } = sL):=by show _ = _; rw [U uD,if_pos rfl,if_neg (by omega),if_neg (by omega),if_pos rfl]; simp only [qS,jw]
    have HPK:=Y pI
    have HLO:=Y jw
    clear pI jw qS vl uD vk HQ qH HK jB qM kh oA
    obtain ⟨g,cp,hv6,vY,hBg,hgw⟩:=df (U vW) xB
    simp only [Value.slice.injEq] at hv6
    obtain ⟨rfl,-,rfl⟩:=hv6
    go_wp2_with fail
    refine U xu _ _ ?_
    clear xu
    go_wp2_with fail
    refine (cZ _ l ii w2 (zK (U vW) (by omega))).mono ?_
    rw [U HPK]
    rintro e w3 ⟨rfl,uH⟩
    have qL:=Y (zk (U vW) uH)
    have xT:=Y (eh (U xF) uH)
    clear uH z0 z1 y0 y1 y2 y3 y4 y5 y6 y7 vX xE oF ol
    have vX:=Y (zf (U HB).2.2.2.2.1 (U xT) vU)
    have oF:w.heap.size + 1 + 1 < w3.heap.size:=yJ vU (U xT).size
    have xE:=Y ((U HB).2.2.2.2.2.trans ((U xT).mono (U HB).2.2.2.2.2.size))
    have ol:ty.heap.size ≤ w3.heap.size:=(U xT).size
    obtain ⟨z0,z1,y0,y1,y2,y3,y4,y5,y6,y7⟩:=U xM w3 (U xT)
    have uV:=row_here (U qL) (by omega) (U HLO)
    have hkl':(k:Int) < l.length:=by omega
    have hk0:(0:Int) ≤ k:=by omega
    have hgR:g ≠ w.heap.size + 1 + 1:=by omega
    have hRS:w.heap.size + 1 + 1 < ty.heap.size:=vU
    have hG3:w3.cell? (J g (k * 6 + 3)) = some (H o.left):=uV.1 3 _ rfl
    have hF3:w3.frozen? (J g (k * 6 + 3)) = false:=uV.2 3 (by omega)
    clear uV
    have oi:Hid (ORow (w3.setCell (J g (k * 6 + 3)) (H F)) ty.heap.size (.slice (some (J g 0)) l.length c6) sL):=by have:=(oRow_left (U qL) rfl (U HLO) F).1; rw [U HLD] at this; exact this
    have un:Hid (yn ty (w3.setCell (J g (k * 6 + 3)) (H F))):=(U xT).setCell (p:=(J g (k * 6 + 3))) hBg _
    go_wp2_with fail
    clear z0 z1 y0 y1 y2 y3 y4 y5 y6 y7 hG3 hF3 vX xE oF ol
    generalize (w3.setCell (J g (k * 6 + 3)) (H F)) = w4 at oi un ⊢
    have vX:=Y (zf (U HB).2.2.2.2.1 (U un) vU)
    have oF:w.heap.size + 1 + 1 < w4.heap.size:=yJ vU (U un).size
    have xE:=Y ((U HB).2.2.2.2.2.trans ((U un).mono (U HB).2.2.2.2.2.size))
    have ol:ty.heap.size ≤ w4.heap.size:=(U un).size
    obtain ⟨z0,z1,y0,y1,y2,y3,y4,y5,y6,y7⟩:=U xM w4 (U un)
    have HZ0:=Y z0
    have HZ1:=Y z1
    have HY0:=Y y0
    have HY1:=Y y1
    have HY2:=Y y2
    have HY3:=Y y3
    have HY4:=Y y4
    have HY5:=Y y5
    have HY6:=Y y6
    have HY7:=Y y7
    go_wp2_with fail
    clear z0 z1 y0 y1 y2 y3 y4 y5 y6 y7
    refine zh (RXA (fun f=>{ tmps:=#[.agg #[H next,.slice a l.length A],.agg (yw 3 s X li F ii pr O).toArray,yp w 0,I (w.heap.size + 1) 0,I (w.heap.size + 1 + 1) 0,f 11,.slice (some (J g 0)) l.length c6,H 0,H k,M,M,M,M,M,M,M,M,M,.slice (some (yq ty 0)) 0 0,yp w 1,.slice a l.length A,.slice (some (J g 0)) l.length c6,.agg #[H next,.slice a l.length A],.agg (yw 3 s X li F ii pr O).toArray,H 0,H 0,.bool false,M,M,M,M,M,M,M,M,M,.slice (some (J g 0)) l.length c6,I (w.heap.size + 1) 5,H ii,H k,I (w.heap.size + 1) 0,H 3,.bool false,.bool false,M,M,M,M,M,M,M,M,M,M,M,M,M,M,M,M,.bool true,.bool true,.slice (some (J g 0)) l.length c6,H k,I (w.heap.size + 1) 4,H F,I g (k * 6),I g (k * 6 + 3),f 0,f 1,f 2,f 3,f 4,f 5,f 6,f 7,f 8,f 9,M,M,M,M,M,M,M,M,M,M,M,M,M,M,M,M,M,M,M,M,M,M,M,M,M,M,M,M,M,M,M,M,M,M,M,M,M,M,M,M,M,M,M,M,M,M,M,M,M,M,M,M,M,M,M,M,M,M,M,M,M,M,M,M,M,M,M,M,M,M,M,M,M,M,M,M,M,M,M,M,M,M,M,M,M,M,M,M,M,M,M,M,M],defers:=[] }) (CX [yp w 0,H next,.slice (some (J g 0)) l.length c6,.agg #[H next,.slice (some (J g 0)) l.length c6],I (w.heap.size + 1) 5,H ii,I (w.heap.size + 1) 4,H F,.agg (yu 7 0 0 0 0 0 0 0 ⟨#[]⟩ ii 0 F 0 0).toArray,M,M,M] [(9,2),(10,9),(11,2)] (ty.heap.size) (next) (sL) ([⟨7,zCm,ii,0,F,0,0⟩])) (w.heap.size + 1 + 1) 2 10 (fun f=>aggL (f 3)) w4) (by kernel_rfl) ?_ ?_ ?_
    ·exact ⟨fun j=>if j = 11 then .slice none 0 0 else M,rfl,rx_start oF (U vX)⟩
    rotate_left
    ·rintro x xm V i op ⟨f,rfl,K⟩ xo hx Z xy D
     have xz:=Y K
     have xn:∀ (p:Addr) u,w4.cell? p = some u→p.block ≠ w.heap.size + 1 + 1→V.cell? p = some u:=fun p u hu hp=>kb_cell K.k hu hp
     match i,Z with
      | 0,Z =>
       obtain rfl:=ya Z
       clear D K xn xo
       rw [if_pos (by rfl)];unfold Oper.wp;go_simp
       exact ⟨upd f 0 (yp w 0),by simp [upd],aD (U xz) 0 _ (by decide) (fun _=>rfl) (zU rfl rfl)⟩
      | 1,Z =>
       obtain rfl:=ya Z
       have g0:f 0 = yp w 0:=zQ (K.c 0 (ye D 0 rfl)) rfl rfl
       have z0:=xn (yq w 0) _ (U HZ0) (show w.heap.size ≠ w.heap.size + 1 + 1 by omega)
       clear D K xn xo
       rw [if_pos (by rfl)];unfold Oper.wp;go_simp
       exact ⟨upd f 1 (H next),by simp [upd,g0],aD (U xz) 1 _ (by decide) (fun _=>rfl) (zU rfl rfl)⟩
      | 2,Z =>
       obtain rfl:=ya Z
       clear D K xn xo
       rw [if_pos (by rfl)];unfold Oper.wp;go_simp
       exact ⟨upd f 2 (.slice (some (J g 0)) l.length c6),by simp [upd],aD (U xz) 2 _ (by decide) (fun _=>rfl) (zU rfl rfl)⟩
      | 3,Z =>
       obtain rfl:=ya Z
       have g1:f 1 = H next:=zQ (K.c 1 (ye D 1 rfl)) rfl rfl
       have g2:f 2 = .slice (some (J g 0)) l.length c6:=zQ (K.c 2 (ye D 2 rfl)) rfl rfl
       have hcl0:=xo
       clear D K xn xo
       rw [if_pos (by rfl)];unfold Oper.wp;go_simp
       exact ⟨upd f 3 (.agg #[H next,.slice (some (J g 0)) l.length c6]),by simp [upd,g1,g2],aD (U xz) 3 _ (by decide) (fun h=>by rw [zw hcl0 12 3 10 (by kernel_rfl) hx (by simp) xy] at h; cases h) (zU rfl rfl)⟩
      | 4,Z =>
       obtain rfl:=ya Z
       clear D K xn xo
       rw [if_pos (by rfl)];unfold Oper.wp;go_simp
       exact ⟨upd f 4 (I (w.heap.size + 1) 5),by simp [upd],aD (U xz) 4 _ (by decide) (fun _=>rfl) (zU rfl rfl)⟩
      | 5,Z =>
       obtain rfl:=ya Z
       have g4:f 4 = I (w.heap.size + 1) 5:=zQ (K.c 4 (ye D 4 rfl)) rfl rfl
       have y5:=xn (J (w.heap.size + 1) 5) _ (U HY5) (show w.heap.size + 1 ≠ w.heap.size + 1 + 1 by omega)
       clear D K xn xo
       rw [if_pos (by rfl)];unfold Oper.wp;go_simp
       exact ⟨upd f 5 (H ii),by simp [upd,g4],aD (U xz) 5 _ (by decide) (fun _=>rfl) (zU rfl rfl)⟩
      | 6,Z =>
       obtain rfl:=ya Z
       clear D K xn xo
       rw [if_pos (by rfl)];unfold Oper.wp;go_simp
       exact ⟨upd f 6 (I (w.heap.size + 1) 4),by simp [upd],aD (U xz) 6 _ (by decide) (fun _=>rfl) (zU rfl rfl)⟩
      | 7,Z =>
       obtain rfl:=ya Z
       have g6:f 6 = I (w.heap.size + 1) 4:=zQ (K.c 6 (ye D 6 rfl)) rfl rfl
       have y4:=xn (J (w.heap.size + 1) 4) _ (U HY4) (show w.heap.size + 1 ≠ w.heap.size + 1 + 1 by omega)
       clear D K xn xo
       rw [if_pos (by rfl)];unfold Oper.wp;go_simp
       exact ⟨upd f 7 (H F),by simp [upd,g6],aD (U xz) 7 _ (by decide) (fun _=>rfl) (zU rfl rfl)⟩
      | 8,Z =>
       obtain rfl:=ya Z
       have g5:f 5 = H ii:=zQ (K.c 5 (ye D 5 rfl)) rfl rfl
       have g7:f 7 = H F:=zQ (K.c 7 (ye D 7 rfl)) rfl rfl
       clear D K xn xo
       rw [if_pos (by rfl)];unfold Oper.wp;go_simp
       exact ⟨upd f 8 (.agg (yu 7 0 0 0 0 0 0 0 ⟨#[]⟩ ii 0 F 0 0).toArray),by simp [upd,g5,g7],aD (U xz) 8 _ (by decide) (fun _=>rfl) (zU rfl rfl)⟩
      | 9,Z =>
       obtain rfl:=ya Z
       have g8:f 8 = .agg (yu 7 0 0 0 0 0 0 0 ⟨#[]⟩ ii 0 F 0 0).toArray:=zQ (K.c 8 (ye D 8 rfl)) rfl rfl
       have qT:=yN ol K.k.size
       clear D K xn xo
       rw [if_pos (by rfl)];unfold Oper.wp;go_simp
       exact ⟨upd f 9 (.slice (some (yq V 0)) 1 1),by simp [upd,g8],aD (rx_grow (cE hRS) (U xz) (ed _ _)) 9 _ (by decide) (fun _=>rfl) (bF (d:=2) rfl ⟨eRow_one V ⟨7,zCm,ii,0,F,0,0⟩ qT,_,_,rfl⟩)⟩
      | 10,Z =>
       obtain rfl:=ya Z
       have g0:f 3 = .agg #[H next,.slice (some (J g 0)) l.length c6]:=zQ (K.c 3 (ye D 3 rfl)) rfl rfl
       obtain ⟨y0,z0,q0⟩:=zc K.t (j:=0) (by omega)
       obtain ⟨y1,z1,q1⟩:=zc K.t (j:=1) (by omega)
       clear D K xn xo
       rw [if_pos (by rfl)];unfold Oper.wp;go_simp
       have vv:=rx_store (cE hRS) (U xz) xy (by simp [g0,aggL]) (fun _ _=>bF (d:=9) rfl trivial)
       simp only [g0,aggL] at vv
       exact ⟨f,by simp [g0],vv⟩
      | 11,Z =>
       obtain rfl:=ya Z
       have h8:=cx_sp (d:=2) (K.c 9 (ye D 9 rfl)) rfl
       obtain ⟨a8,c8,g8⟩:=h8.2
       rw [g8] at h8
       have H8:=Y h8
       clear h8
       clear D K xn xo
       rw [if_pos (by rfl)];unfold Oper.wp;go_simp
       exact ⟨upd f 11 (f 9),by simp [upd,g8],aD (U xz) 11 _ (by decide) (fun _=>rfl) (bF (d:=2) rfl (by rw [g8]; exact U H8))⟩
      | n + 12,Z=>simp at Z
    ·rintro x xm V ⟨f,rfl,K⟩ hx xP
     have xp:=zP xP hx (by kernel_rfl)
     obtain ⟨hE8,a8,c8,e8⟩:=cx_sp (d:=2) (K.c 11 (xp 11 (by simp))) rfl
     have vP:=K.r (xp 10 (by simp))
     obtain ⟨v4,hv4,ax⟩:∃ v4,v4 = .slice (some (J g 0)) l.length c6∧ORow V ty.heap.size v4 sL:=⟨_,rfl,kb_row (U oi) K.k hRS⟩
     have g3:f 3 = .agg #[H next,.slice (some (J g 0)) l.length c6]:=zQ (K.c 3 (xp 3 (by simp))) rfl rfl
     simp only [g3,aggL] at vP
     rw [← hv4] at vP
     clear g3
     have HO:Hid (ORow V w.heap.size v4 _∧ERow V w.heap.size (.slice a8 _ c8) _):=⟨zF ax (by omega),zF (e8 ▸ hE8) (by omega)⟩
     have xv:Hid (yn w V):=⟨K.k.os.trans (U xE).os,K.k.tape.trans (U xE).tape,K.k.output.trans (U xE).output,yN (U xE).size K.k.size,fun k hk=>(K.k.block k (yJ hk (U xE).size) (by omega)).trans ((U xE).block k hk)⟩
     have d0:V.cell? (J (w.heap.size + 1 + 1) 0) = some (H next):=vP 0 _ rfl
     have d1:V.cell? (J (w.heap.size + 1 + 1) 1) = some v4:=vP 1 _ rfl
     simp only [e8]
     generalize f 0 = w0,f 1 = w1,f 2 = w2,f 3 = w3,f 4 = w4,f 5 = w5,f 6 = w6,f 7 = w7,f 8 = w8,f 9 = w9
     clear K xp xP hx vP hE8 ax
     go_wp2_with fail
     try simp only [Exit.inBlock,Exit.then]
     refine bodyPost_ret (by simp [results,Tryz.results36,go_sem,d0,d1]; try rfl) rfl ?_
     obtain ⟨rfl,rfl⟩:=U uI
     exact ⟨_,_,rfl,(U HO).1,(U HO).2,U xv⟩
   ·exact absurd (U uz).2 (by decide)
  ·have oa:=vf
   have qA:(rr == 0) = false:=by rw [xd]; exact vf
   have uI:Hid (sN = next∧sL = l∧sE = [⟨2,⟨kk,s,X,li,F,ii,pr,cutB O⟩,0,0,0,0,rr⟩]):=⟨by rw [U vl,if_neg (fun h=>vf h.1)],by rw [U uD,if_neg vf],by rw [U vk,if_neg vf]⟩
   skip
   exact absurd (U uz).1 oa
 rcases U vR with hs | ⟨ad,nn,cc,hs⟩
 ·simp only [Value.slice.injEq] at hs
  obtain ⟨rfl,pG,rfl⟩:=hs
  obtain rfl:=List.length_eq_zero_iff.1 pG
  obtain ⟨z0,z1,y0,y1,y2,y3,y4,y5,y6,y7⟩:=U xM ty (Below.refl _ _)
  have vG:=Y (World.ownsRow_made (base:=ty.heap.size) (e:=66) (size:=6) ty #[] 0 tg (by decide) rfl)
  have hzX:World.cell? (ty.alloc (E #[] 66)) (yq w 1) = some (.slice none 0 0):=(U xM _ (ed _ _)).2.1
  have kU:=Y HT
  clear HT hK
  go_wp2_with (at_builtin; go_must (refine wpList_append_own_none rfl _ _ 29 rfl ty.heap.size 66 i0 6 Tryz.underlying29 uE (.slice (some (yq ty 0)) 0 0) 0 [] rfl (U vG) rfl ?_))
  exact U kU _ _ _ (U vG) (ed _ _)
 ·simp only [Value.slice.injEq] at hs
  obtain ⟨rfl,rfl,rfl⟩:=hs
  obtain ⟨z0,z1,y0,y1,y2,y3,y4,y5,y6,y7⟩:=U xM ty (Below.refl _ _)
  have uN:Hid (yn ty (ty.alloc (E #[] 66))):=ed _ _
  have vG:=Y (World.ownsRow_made (base:=ty.heap.size) (e:=66) (size:=6) ty #[] 0 tg (by decide) rfl)
  have hzX:World.cell? (ty.alloc (E #[] 66)) (yq w 1) = some (.slice (some ad) l.length A):=(U xM _ (U uN)).2.1
  have uZ:Hid (∀ j u,(l.flatMap Od.vs)[j]? = some u→World.cell? (ty.alloc (E #[] 66)) (ad.add j) = some u):=rd_src (zl (U HR) ((U HB).2.2.2.2.2.trans ((U uN).mono (U HB).2.2.2.2.2.size)) tg)
  have kU:=Y HT
  clear HT hK
  go_wp2_with (at_builtin; go_must (refine wpList_append_own _ rfl _ _ 29 rfl ty.heap.size 66 i0 _ 6 56 Tryz.underlying29 uE uA uC uM rfl (by decide) (.slice (some (yq ty 0)) 0 0) 0 [] rfl (U vG) ad l.length A (l.flatMap Od.vs) rfl (by rw [zH Od.len]) (U uZ) (bd l) (by unfold maxLen; omega) (by omega) (U uN).size ?_); intro v1 w1 uY vV _; have vh:=Y uY; have jN:=Y vV; clear uY vV)
  have ah:Hid (ORow w1 ty.heap.size v1 l):=by
   show w1.ownsRow _ _ _ _ l.length _
   simpa using U vh
  obtain ⟨a6,c6,hv⟩:=zR (U ah)
  subst hv
  exact U kU _ _ _ (U ah) ((U uN).grown (U jN) (U uN).size (fun k hk=>((U vG).lt k hk).1))
end Go.Proofs.YtdliebbfcmdmaaaGreat
