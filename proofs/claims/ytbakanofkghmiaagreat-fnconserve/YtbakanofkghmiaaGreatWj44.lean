/-
  A command done on a book, by the model: proved by walking the function.
-/
import Derived.Test.YtbakanofkghmiaaGreatWj41
set_option linter.unusedVariables false
set_option maxHeartbeats 6400000
set_option maxRecDepth 100000
namespace Go.Proofs.YtbakanofkghmiaaGreat
open Go.RowKit
theorem l04Step_y (next:Int) (vb:Value) (l:List Od) (c:Cm) (w:World) (jc:refR next l c = 0∧c.k = 4) (hr:RdR Od.vs 6 w vb l) (hs:SlOk vb) (hg:GoodL l) (uD:∀ x ∈ l,x.side = 1 ∨ x.side = 2) (h0:0 ≤ next) (G:next ≤ 1000000) (ht:c.g.size ≤ maxLen) :
  Calls Tryz.prog 44 #[.agg #[H next,vb],cmV c] w fun e w'=>∃ vq vg,e = ym (.tuple #[.agg #[H (stN next l c),vq],vg])∧ORow w' w.heap.size vq (stL next l c)∧ERow w' w.heap.size vg (stE next l c)∧yn w w':=by
 obtain ⟨i0,uH,uF,uJ,uQ⟩:=info_parts Tryz.infoOrder
 obtain ⟨j0,jj,pY,hy1,hy2⟩:=info_parts infoEv
 have HR:=Y hr
 have vP:=Y hs
 have HG:=Y hg
 have qI:=Y ht
 have vN:=hg.len
 have uI:Hid (0 ≤ next∧next ≤ 1000000):=⟨h0,G⟩
 have uO:=Y (fun (W:World) hW=>dJ next vb l c W hW hs hg uD ht)
 rw [ref_eq] at uO
 have HK:=Y (@di next l c)
 have HQ:=Y (@cK next l c)
 have qN:=Y (@ref_id next l c)
 have jF:=Y (@ref_newS next l c)
 have uB:=Y jc
 clear jc
 have vj:Hid (stN next l c = if refR next l c = 0∧c.k = 1 then next + 1 else next):=rfl
 have uE:=Y (stL.eq_1 next l c)
 have vi:=Y (stE.eq_1 next l c)
 have oA:=Y (fun W=>dI c W ht)
 have uP:=Y (fun (a:Option Addr) (n A:Nat) (W:World)=>dt next a n A c W)
 have kg:=Y (fun (v:Value) (W:World) hr hs hp qd qe=>dr v l c next W hr hg hs hp qd qe)
 obtain ⟨a,A,rfl,vE,hc⟩:=hr
 obtain ⟨kk,s,ty,li,O,ii,pr,L⟩:=c
 generalize stN next l ⟨kk,s,ty,li,O,ii,pr,L⟩ = sN at vj ⊢
 generalize stL next l ⟨kk,s,ty,li,O,ii,pr,L⟩ = sL at uE ⊢
 generalize stE next l ⟨kk,s,ty,li,O,ii,pr,L⟩ = sE at vi ⊢
 generalize refR next l ⟨kk,s,ty,li,O,ii,pr,L⟩ = rr at uO vj uE vi HK HQ qN jF uB
 unfold cmV at uO uP ⊢
 simp only at uO vj uE vi HK HQ qN jF oA uP kg qI uB ⊢
 have HB:=Y (box3 w [H next,.slice a l.length A] (yw kk s ty li O ii pr L) [H 0,.slice none 0 0] 28 43 28)
 clear hs hg uD h0 G ht hc vE
 go_enter Tryz.func44,Tryz.ntmps44
 refine eH fun hj xu=>?_
 go_wp2_with fail
 refine U xu _ _ ?_
 clear xu
 change Hid ((((w.alloc (eF #[H next,.slice a l.length A] 28)).alloc (eF (yw kk s ty li O ii pr L).toArray 43)).alloc (eF #[H 0,.slice none 0 0] 28)).heap.size = w.heap.size + 3∧World.rangeAt (((w.alloc (eF #[H next,.slice a l.length A] 28)).alloc (eF (yw kk s ty li O ii pr L).toArray 43)).alloc (eF #[H 0,.slice none 0 0] 28)) w.heap.size 0 [H next,.slice a l.length A]∧World.rangeAt (((w.alloc (eF #[H next,.slice a l.length A] 28)).alloc (eF (yw kk s ty li O ii pr L).toArray 43)).alloc (eF #[H 0,.slice none 0 0] 28)) (w.heap.size + 1) 0 (yw kk s ty li O ii pr L)∧World.rangeAt (((w.alloc (eF #[H next,.slice a l.length A] 28)).alloc (eF (yw kk s ty li O ii pr L).toArray 43)).alloc (eF #[H 0,.slice none 0 0] 28)) (w.heap.size + 1 + 1) 0 [H 0,.slice none 0 0]∧World.there (((w.alloc (eF #[H next,.slice a l.length A] 28)).alloc (eF (yw kk s ty li O ii pr L).toArray 43)).alloc (eF #[H 0,.slice none 0 0] 28)) (w.heap.size + 1 + 1) 0 2∧yn w (((w.alloc (eF #[H next,.slice a l.length A] 28)).alloc (eF (yw kk s ty li O ii pr L).toArray 43)).alloc (eF #[H 0,.slice none 0 0] 28))) at HB
 generalize (((w.alloc (eF #[H next,.slice a l.length A] 28)).alloc (eF (yw kk s ty li O ii pr L).toArray 43)).alloc (eF #[H 0,.slice none 0 0] 28)) = hR at HB ⊢
 have xK:Hid (∀ W:World,yn hR W→W.cell? (yq w 0) = some (H next)∧W.cell? (yq w 1) = some (.slice a l.length A)∧W.cell? (J (w.heap.size + 1) 0) = some (H kk)∧W.cell? (J (w.heap.size + 1) 1) = some (H s)∧W.cell? (J (w.heap.size + 1) 2) = some (H ty)∧W.cell? (J (w.heap.size + 1) 3) = some (H li)∧W.cell? (J (w.heap.size + 1) 4) = some (H O)∧W.cell? (J (w.heap.size + 1) 5) = some (H ii)∧W.cell? (J (w.heap.size + 1) 6) = some (yj pr)∧W.cell? (J (w.heap.size + 1) 7) = some (yk L)):=fun W hW =>
  have p:=zb (U HB).2.1 hW (by have:=(U HB).1; omega)
  have q:=zb (U HB).2.2.1 hW (by have:=(U HB).1; omega)
  ⟨p 0 _ rfl,p 1 _ rfl,q 0 _ rfl,q 1 _ rfl,q 2 _ rfl,q 3 _ rfl,q 4 _ rfl,q 5 _ rfl,q 6 _ rfl,q 7 _ rfl⟩
 have vS:w.heap.size + 1 + 1 < hR.heap.size:=by have:=(U HB).1; omega
 refine wp_seq_k fun hj hK=>?_
 have HT:∀ (a6:Option Addr) (c6:Nat) (w1:World),ORow w1 hR.heap.size (.slice a6 l.length c6) l→yn hR w1→hj { tmps:=#[.agg #[H next,.slice a l.length A],.agg (yw kk s ty li O ii pr L).toArray,yp w 0,I (w.heap.size + 1) 0,I (w.heap.size + 1 + 1) 0,.slice none 0 0,.slice a6 l.length c6,M,M,M,M,M,M,M,M,M,M,M,.slice (some (yq hR 0)) 0 0,yp w 1,.slice a l.length A,.slice a6 l.length c6,M,M,M,M,M,M,M,M,M,M,M,M,M,M,M,M,M,M,M,M,M,M,M,M,M,M,M,M,M,M,M,M,M,M,M,M,M,M,M,M,M,M,M,M,M,M,M,M,M,M,M,M,M,M,M,M,M,M,M,M,M,M,M,M,M,M,M,M,M,M,M,M,M,M,M,M,M,M,M,M,M,M,M,M,M,M,M,M,M,M,M,M,M,M,M,M,M,M,M,M,M,M,M,M,M,M,M,M,M,M,M,M,M,M,M,M,M,M,M,M,M,M,M,M,M,M,M,M,M,M,M,M,M,M,M,M,M,M,M,M,M,M,M,M,M,M,M,M,M],defers:=[] } w1:=by
  intro a6 c6 w1 vu xW
  refine hK _ _ ?_
  clear hK
  have vp:=Y vu
  have xU:=Y xW
  clear vu xW
  obtain ⟨z0,z1,y0,y1,y2,y3,y4,y5,y6,y7⟩:=U xK w1 (U xU)
  refine eH fun hj xu=>?_
  go_wp2_with fail
  refine (U uO w1 (zn (U HR) ((U HB).2.2.2.2.2.trans ((U xU).mono (U HB).2.2.2.2.2.size)) qt)).mono ?_
  rintro e w2 ⟨rfl,xY⟩
  have vT:=Y (zm (U vp) xY)
  have xD:=Y (D (U xU) xY)
  clear z0 z1 y0 y1 y2 y3 y4 y5 y6 y7 xY vp
  obtain ⟨z0,z1,y0,y1,y2,y3,y4,y5,y6,y7⟩:=U xK w2 (U xD)
  have vU:=Y (zg (U HB).2.2.2.2.1 (U xD) vS)
  have oP:w.heap.size + 1 + 1 < w2.heap.size:=yJ vS (U xD).size
  have xM:=Y ((U HB).2.2.2.2.2.trans ((U xD).mono (U HB).2.2.2.2.2.size))
  have hXw:w.heap.size ≤ hR.heap.size:=by omega
  have hX2:hR.heap.size ≤ w2.heap.size:=(U xD).size
  have oj:=hX2
  by_cases vf:rr = 0
  ·subst vf
   have pR:=U HK rfl
   rcases pR with rfl | rfl | rfl | rfl
   ·exact absurd (U uB).2 (by decide)
   ·exact absurd (U uB).2 (by decide)
   ·exact absurd (U uB).2 (by decide)
   ·have uK:Hid (sN = next∧sL = l.filter ndy∧sE = ⟨8,zCm,0,0,((l.filter dyB).length:Nat),0,0⟩ :: (l.filter dyB).map expE):=⟨by rw [U vj,if_neg (fun h=>by have:=h.2; omega)],by rw [U uE,if_pos rfl,if_neg (by omega),if_neg (by omega),if_neg (by omega)],by rw [U vi,if_pos rfl,if_neg (by omega),if_neg (by omega),if_neg (by omega)]⟩
    clear vj uE vi HQ qN HK jF uP kg oA
    go_wp2_with fail
    refine U xu _ _ ?_
    clear xu
    go_wp2_with fail
    refine (du _ l ii w2 (zN (U vT) (by omega))).mono ?_
    generalize plc l ii = pk
    rintro e w3 ⟨rfl,uC⟩
    have qQ:=Y (zm (U vT) uC)
    have xV:=Y (D (U xD) uC)
    clear uC z0 z1 y0 y1 y2 y3 y4 y5 y6 y7 vU xM oP oj
    have vU:=Y (zg (U HB).2.2.2.2.1 (U xV) vS)
    have oP:w.heap.size + 1 + 1 < w3.heap.size:=yJ vS (U xV).size
    have xM:=Y ((U HB).2.2.2.2.2.trans ((U xV).mono (U HB).2.2.2.2.2.size))
    have oj:hR.heap.size ≤ w3.heap.size:=(U xV).size
    obtain ⟨z0,z1,y0,y1,y2,y3,y4,y5,y6,y7⟩:=U xK w3 (U xV)
    go_wp2_with fail
    refine (l04Days_any _ l w3 (zN (U qQ) (by omega)) (by omega)).mono ?_
    rintro e w4 ⟨v4,rfl,hI4,xC⟩
    obtain ⟨ad,cd,hv4⟩:=zT hI4
    subst hv4
    have hnd0:(dys l).length = (l.filter dyB).length:=dysF_len l 0
    clear hI4
    generalize (dys l).length = nd at hnd0 ⊢
    have HND:=Y hnd0
    have hnd20:nd ≤ 20:=by rw [hnd0]; exact yN (List.length_filter_le _ _) vN
    clear hnd0
    have og:=Y (zm (U qQ) xC)
    have uo:=Y (D (U xV) xC)
    clear xC z0 z1 y0 y1 y2 y3 y4 y5 y6 y7
    have hsE:=zh w4 (eF (yu 8 0 0 0 0 0 0 0 ⟨#[]⟩ 0 0 nd 0 0).toArray 46)
    have hbE:yn w4 ((w4.alloc (eF (yu 8 0 0 0 0 0 0 0 ⟨#[]⟩ 0 0 nd 0 0).toArray 46)).alloc (eF #[] 49)):=(eD _ _).alloc (by rw [hsE]; omega) _
    have vZ:Hid (ERow ((w4.alloc (eF (yu 8 0 0 0 0 0 0 0 ⟨#[]⟩ 0 0 nd 0 0).toArray 46)).alloc (eF #[] 49)) w4.heap.size (.slice (some (yq w4 0)) 1 1) [⟨8,zCm,0,0,(nd:Int),0,0⟩]):=(eRow_one w4 ⟨8,zCm,0,0,(nd:Int),0,0⟩ qt).alloc _
    have HL5:Hid (ORow ((w4.alloc (eF (yu 8 0 0 0 0 0 0 0 ⟨#[]⟩ 0 0 nd 0 0).toArray 46)).alloc (eF #[] 49)) w4.heap.size (.slice (some (J (w4.heap.size + 1) 0)) 0 0) []):=by have:=World.ownsRow_made (base:=w4.heap.size) (e:=49) (size:=6) (w4.alloc (eF (yu 8 0 0 0 0 0 0 0 ⟨#[]⟩ 0 0 nd 0 0).toArray 46)) #[] 0 (by rw [hsE]; omega) (by decide) rfl; rw [hsE] at this; exact this
    have kP:=Y (zm (U og) hbE)
    have km:=Y (D (U uo) hbE)
    have h45:w4.heap.size ≤ ((w4.alloc (eF (yu 8 0 0 0 0 0 0 0 ⟨#[]⟩ 0 0 nd 0 0).toArray 46)).alloc (eF #[] 49)).heap.size:=hbE.size
    have hX4:hR.heap.size ≤ w4.heap.size:=(U uo).size
    have hO4lt:Hid (∀ g,(Value.slice a6 l.length c6).ownBlock = some g→g < w4.heap.size):=fun g hg=>((U og).lt g hg).2
    clear hsE hbE
    have hsf:=sfl
    go_wp2_with fail
    generalize ((w4.alloc (eF (yu 8 0 0 0 0 0 0 0 ⟨#[]⟩ 0 0 nd 0 0).toArray 46)).alloc (eF #[] 49)) = W5 at vZ HL5 kP km h45 ⊢
    go_loopw [11,12,13] (fun evv lfv iv wr=>∃ (k:Nat),k ≤ l.length∧iv = H k∧Hid (ERow wr w4.heap.size evv (⟨8,zCm,0,0,(nd:Int),0,0⟩ :: ((l.take k).filter dyB).map expE)∧ORow wr w4.heap.size lfv ((l.take k).filter ndy)∧ORow wr hR.heap.size (.slice a6 l.length c6) l∧yn hR wr∧w4.heap.size ≤ wr.heap.size)) (fun _ _ iv _=>l.length - (intOf iv).toNat)
    case atStart=>exact ⟨0,Nat.zero_le _,rfl,U vZ,U HL5,U kP,U km,h45⟩
    case round =>
     obtain ⟨k,hk,rfl,ub⟩:=hrel
     by_cases xJ:k < l.length
     ·obtain ⟨o,hko⟩:∃ o,l[k]? = some o:=⟨_,yH xJ⟩
      obtain ⟨a',c',e1,_,xo⟩:=zN (U ub).2.2.1 (by omega)
      obtain ⟨b,off,e2,F,xo⟩:=xo (by rintro rfl; simp at hko)
      simp only [Value.slice.injEq] at e1
      obtain ⟨e1,-,-⟩:=e1
      rw [e2] at e1
      subst e1
      have kp:=Y (xo k o hko)
      obtain ⟨g0,g1,g2,g3,g4,g5⟩:=zz (xo k o hko)
      have un:(k:Int) < l.length:=by omega
      have hk0:(0:Int) ≤ k:=by omega
      have HKO:=Y hko
      clear xo hko F e2
      by_cases hd:o.life = 1
      ·have po:(o.life == 1) = true:=by simpa using hd
       have qb:=Y (take_dy (U HKO) hd)
       have HNY:=Y (take_ny (U HKO) hd)
       clear hd
       go_wp2_with fail
       obtain ⟨hE,hL,hO,hB9,hs4⟩:=U ub
       have hlev:(⟨8,zCm,0,0,(nd:Int),0,0⟩ :: ((l.take k).filter dyB).map expE:List Ev).length ≤ 100:=by
        have G:((l.take k).filter dyB).length ≤ 20:=yN (List.length_filter_le _ _) (yN (List.length_take_le _ _) (by omega))
        simp only [List.length_cons,List.length_map]; omega
       have hllf:((l.take k).filter ndy).length ≤ 20:=yN (List.length_filter_le _ _) (yN (List.length_take_le _ _) (by omega))
       have HNXE:Hid ((⟨8,zCm,0,0,(nd:Int),0,0⟩ :: ((l.take (k + 1)).filter dyB).map expE:List Ev) = (⟨8,zCm,0,0,(nd:Int),0,0⟩ :: ((l.take k).filter dyB).map expE) ++ [expE o]):=by show _ = _; rw [U qb,List.map_append]; rfl
       have kO:=U HNY
       generalize (⟨8,zCm,0,0,(nd:Int),0,0⟩ :: ((l.take k).filter dyB).map expE:List Ev) = evs at hE hlev HNXE
       generalize (l.take k).filter ndy = LF at hL hllf kO
       have kO:=Y kO
       have HE:=Y hE
       have HL:=Y hL
       have HO:=Y hO
       have kL:=Y hB9
       clear hE hL hO hB9 ub
       have HG0:=Y g0
       have qh:=Y g3
       clear g0 g1 g2 g3 g4 g5
       refine zj (RYBA (fun f=>{ tmps:=#[.agg #[H next,.slice a l.length A],.agg (yw 4 s ty li O ii pr L).toArray,yp w 0,I (w.heap.size + 1) 0,I (w.heap.size + 1 + 1) 0,.slice none 0 0,.slice (some (J b off)) l.length c6,H 0,H pk,M,.slice ad nd cd,f 14,u12,H k,M,M,M,M,.slice (some (yq hR 0)) 0 0,yp w 1,.slice a l.length A,.slice (some (J b off)) l.length c6,.agg #[H next,.slice a l.length A],.agg (yw 4 s ty li O ii pr L).toArray,H 0,H 0,.bool false,M,M,M,M,M,M,M,M,M,.slice (some (J b off)) l.length c6,I (w.heap.size + 1) 5,H ii,H pk,I (w.heap.size + 1) 0,H 4,.bool false,.bool false,M,M,M,M,M,M,M,M,M,M,M,M,M,M,M,M,.bool false,.bool false,M,M,M,M,M,M,M,M,M,M,M,M,M,M,M,M,.bool true,.bool true,.slice (some (J b off)) l.length c6,.slice ad nd cd,.slice ad nd cd,H nd,.agg (yu 8 0 0 0 0 0 0 0 ⟨#[]⟩ 0 0 nd 0 0).toArray,.slice (some (yq w4 0)) 1 1,.slice (some (J (w4.heap.size + 1) 0)) 0 0,H k,.slice (some (J b off)) l.length c6,H l.length,.bool true,u91,u92,.slice (some (J b off)) l.length c6,H k,I b (off + k * 6),I b (off + k * 6 + 4),H o.life,.bool true,f 0,f 1,f 2,f 3,f 4,f 5,f 6,f 7,f 8,f 9,f 10,f 11,f 12,f 13,u113,u114,u115,u116,u117,u118,u119,M,M,M,M,M,M,M,M,M,M,M,M,M,M,M,M,M,M,M,M,M,M,M,M,M,M,M,M,M,M,M,M,M,M,M,M,M,M,M,M,M,M,M,M,M,M,M,M,M,M,M],defers:=[] }) (CX [u11,.slice (some (J b off)) l.length c6,H k,I b (off + k * 6),I b (off + k * 6),H o.id,.slice (some (J b off)) l.length c6,H k,I b (off + k * 6),I b (off + k * 6 + 3),H o.left,.agg (yu 9 0 0 0 0 0 0 0 ⟨#[]⟩ o.id 0 o.left 0 0).toArray,M,M,M] [(12,3)] (w4.heap.size) 0 [] ([expE o])) 13 (u11) (fun f W=>ERow W w4.heap.size (f 13) (evs ++ [expE o])∧ORow W w4.heap.size u12 LF∧ORow W hR.heap.size (.slice (some (J b off)) l.length c6) l∧yn hR W∧w4.heap.size ≤ W.heap.size) wr) (by kernel_rfl) ?_ ?_ ?_
       ·exact ⟨fun j=>([u99,u100,u101,u102,u103,u104,u105,u106,u107,u108,u109,u110,u111,u112,u11]:List Value)[j]?.getD M,rfl,ry_start (by decide),ryb_start rfl⟩
       rotate_left
       ·rintro x xm V i op ⟨f,rfl,X,hA⟩ xo hx Z xy Q
        have xz:=Y X
        have qH:=Y hA
        clear hA
        have xn:x[13]? = some false→∀ (p:Addr) u,wr.cell? p = some u→V.cell? p = some u:=fun hn p u hu=>((X.b hn).cell (yK wr _ hu)).trans hu
        match i,Z with
        | 0,Z =>
         obtain rfl:=ya Z
         have hn:x[13]? = some false:=zy xo 12 0 13 (by kernel_rfl) hx (by simp) xy
         have kw:f 14 = u11:=(U qH).2 (zy xo 12 0 14 (by kernel_rfl) hx (by simp) xy)
         clear Q X xo xn
         rw [if_pos (by rfl)];unfold Oper.wp;go_simp
         exact ⟨upd f 0 u11,by simp [upd,kw],zX (U xz) 0 _ hn (by decide) (zW rfl rfl),zZ _ (U qH) (by decide) (by decide)⟩
        | 1,Z =>
         obtain rfl:=ya Z
         have hn:x[13]? = some false:=zy xo 12 1 13 (by kernel_rfl) hx (by simp) xy
         clear Q X xo xn
         rw [if_pos (by rfl)];unfold Oper.wp;go_simp
         exact ⟨upd f 1 (.slice (some (J b off)) l.length c6),by simp [upd],zX (U xz) 1 _ hn (by decide) (zW rfl rfl),zZ _ (U qH) (by decide) (by decide)⟩
        | 2,Z =>
         obtain rfl:=ya Z
         have hn:x[13]? = some false:=zy xo 12 2 13 (by kernel_rfl) hx (by simp) xy
         clear Q X xo xn
         rw [if_pos (by rfl)];unfold Oper.wp;go_simp
         exact ⟨upd f 2 (H k),by simp [upd],zX (U xz) 2 _ hn (by decide) (zW rfl rfl),zZ _ (U qH) (by decide) (by decide)⟩
        | 3,Z =>
         obtain rfl:=ya Z
         have hn:x[13]? = some false:=zy xo 12 3 13 (by kernel_rfl) hx (by simp) xy
         have g1:f 1 = .slice (some (J b off)) l.length c6:=zS (X.c hn 1 (ye Q 1 rfl)) rfl rfl
         have g2:f 2 = H k:=zS (X.c hn 2 (ye Q 2 rfl)) rfl rfl
         clear Q X xo xn
         rw [if_pos (by rfl)];unfold Oper.wp;go_simp
         exact ⟨upd f 3 (I b (off + k * 6)),by simp [upd,g1,g2],zX (U xz) 3 _ hn (by decide) (zW rfl rfl),zZ _ (U qH) (by decide) (by decide)⟩
        | 4,Z =>
         obtain rfl:=ya Z
         have hn:x[13]? = some false:=zy xo 12 4 13 (by kernel_rfl) hx (by simp) xy
         have g3:f 3 = I b (off + k * 6):=zS (X.c hn 3 (ye Q 3 rfl)) rfl rfl
         clear Q X xo xn
         rw [if_pos (by rfl)];unfold Oper.wp;go_simp
         exact ⟨upd f 4 (I b (off + k * 6)),by simp [upd,g3],zX (U xz) 4 _ hn (by decide) (zW rfl rfl),zZ _ (U qH) (by decide) (by decide)⟩
        | 5,Z =>
         obtain rfl:=ya Z
         have hn:x[13]? = some false:=zy xo 12 5 13 (by kernel_rfl) hx (by simp) xy
         have g4:f 4 = I b (off + k * 6):=zS (X.c hn 4 (ye Q 4 rfl)) rfl rfl
         have q0:=xn hn (J b (off + k * 6)) _ (U HG0)
         clear Q X xo xn
         rw [if_pos (by rfl)];unfold Oper.wp;go_simp
         exact ⟨upd f 5 (H o.id),by simp [upd,g4],zX (U xz) 5 _ hn (by decide) (zW rfl rfl),zZ _ (U qH) (by decide) (by decide)⟩
        | 6,Z =>
         obtain rfl:=ya Z
         have hn:x[13]? = some false:=zy xo 12 6 13 (by kernel_rfl) hx (by simp) xy
         clear Q X xo xn
         rw [if_pos (by rfl)];unfold Oper.wp;go_simp
         exact ⟨upd f 6 (.slice (some (J b off)) l.length c6),by simp [upd],zX (U xz) 6 _ hn (by decide) (zW rfl rfl),zZ _ (U qH) (by decide) (by decide)⟩
        | 7,Z =>
         obtain rfl:=ya Z
         have hn:x[13]? = some false:=zy xo 12 7 13 (by kernel_rfl) hx (by simp) xy
         clear Q X xo xn
         rw [if_pos (by rfl)];unfold Oper.wp;go_simp
         exact ⟨upd f 7 (H k),by simp [upd],zX (U xz) 7 _ hn (by decide) (zW rfl rfl),zZ _ (U qH) (by decide) (by decide)⟩
        | 8,Z =>
         obtain rfl:=ya Z
         have hn:x[13]? = some false:=zy xo 12 8 13 (by kernel_rfl) hx (by simp) xy
         have g6:f 6 = .slice (some (J b off)) l.length c6:=zS (X.c hn 6 (ye Q 6 rfl)) rfl rfl
         have g7:f 7 = H k:=zS (X.c hn 7 (ye Q 7 rfl)) rfl rfl
         clear Q X xo xn
         rw [if_pos (by rfl)];unfold Oper.wp;go_simp
         exact ⟨upd f 8 (I b (off + k * 6)),by simp [upd,g6,g7],zX (U xz) 8 _ hn (by decide) (zW rfl rfl),zZ _ (U qH) (by decide) (by decide)⟩
        | 9,Z =>
         obtain rfl:=ya Z
         have hn:x[13]? = some false:=zy xo 12 9 13 (by kernel_rfl) hx (by simp) xy
         have g8:f 8 = I b (off + k * 6):=zS (X.c hn 8 (ye Q 8 rfl)) rfl rfl
         clear Q X xo xn
         rw [if_pos (by rfl)];unfold Oper.wp;go_simp
         exact ⟨upd f 9 (I b (off + k * 6 + 3)),by simp [upd,g8],zX (U xz) 9 _ hn (by decide) (zW rfl rfl),zZ _ (U qH) (by decide) (by decide)⟩
        | 10,Z =>
         obtain rfl:=ya Z
         have hn:x[13]? = some false:=zy xo 12 10 13 (by kernel_rfl) hx (by simp) xy
         have g9:f 9 = I b (off + k * 6 + 3):=zS (X.c hn 9 (ye Q 9 rfl)) rfl rfl
         have q3:=xn hn (J b (off + k * 6 + 3)) _ (U qh)
         clear Q X xo xn
         rw [if_pos (by rfl)];unfold Oper.wp;go_simp
         exact ⟨upd f 10 (H o.left),by simp [upd,g9],zX (U xz) 10 _ hn (by decide) (zW rfl rfl),zZ _ (U qH) (by decide) (by decide)⟩
        | 11,Z =>
         obtain rfl:=ya Z
         have hn:x[13]? = some false:=zy xo 12 11 13 (by kernel_rfl) hx (by simp) xy
         have g5:f 5 = H o.id:=zS (X.c hn 5 (ye Q 5 rfl)) rfl rfl
         have qR:f 10 = H o.left:=zS (X.c hn 10 (ye Q 10 rfl)) rfl rfl
         clear Q X xo xn
         rw [if_pos (by rfl)];unfold Oper.wp;go_simp
         exact ⟨upd f 11 (.agg (yu 9 0 0 0 0 0 0 0 ⟨#[]⟩ o.id 0 o.left 0 0).toArray),by simp [upd,g5,qR],zX (U xz) 11 _ hn (by decide) (zW rfl rfl),zZ _ (U qH) (by decide) (by decide)⟩
        | 12,Z =>
         obtain rfl:=ya Z
         have hn:x[13]? = some false:=zy xo 12 12 13 (by kernel_rfl) hx (by simp) xy
         have vF:f 11 = .agg (yu 9 0 0 0 0 0 0 0 ⟨#[]⟩ o.id 0 o.left 0 0).toArray:=zS (X.c hn 11 (ye Q 11 rfl)) rfl rfl
         have jb:=yN hs4 (X.b hn).size
         clear Q X xo xn
         rw [if_pos (by rfl)];unfold Oper.wp;go_simp
         exact ⟨upd f 12 (.slice (some (yq V 0)) 1 1),by simp [upd,vF],zX (ry_grow (cx_monoB (by omega)) (U xz) hn (eD _ _)) 12 _ hn (by decide) (bV (d:=3) rfl ⟨V.heap.size,rfl,by rw [zh]; omega,jb,zi V (expE o).vs _⟩),zZ _ (U qH) (by decide) (by decide)⟩
        | 13,Z =>
         obtain rfl:=ya Z
         have hn:x[13]? = some false:=xy
         have g0:f 0 = u11:=zS (X.c hn 0 (ye Q 0 rfl)) rfl rfl
         obtain ⟨qw,xZ,qU,_,hr12⟩:=cx_sp (d:=3) (X.c hn 12 (ye Q 12 rfl)) rfl
         have jo:x[14]? = some false:=zy xo 12 13 14 (by kernel_rfl) hx (by simp) xy
         have xT:=X.b hn
         have hEV:=zI (U HE) xT
         have hLV:=zm (U HL) xT
         have hOV:=zm (U HO) xT
         have hBV:=(U kL).trans (xT.mono (U kL).size)
         have hsV:=yN hs4 xT.size
         rw [if_pos (by rfl)]
         refine wp_append_own V (.tmp 99) (.tmp 111) 38 rfl w4.heap.size 46 j0 _ 14 120 Tryz.underlying38 jj pY hy1 hy2 rfl (by decide) u11 evs.length (evs.flatMap Ev.vs) g0 hEV (J qw 0) 1 1 (expE o).vs xZ rfl (fun j u hu=>by rw [Addr.add_mid]; exact hr12 j u hu) (one_ev (expE o)) (by unfold maxLen; omega) (by omega) hsV ?_
         intro v' w' xN uk _
         refine ⟨upd f 13 v',rfl,ry_write (U xz) hn v' ⟨?_,World.ownsRow.kept hLV uk (zD hLV hEV (by decide)),World.ownsRow.kept hOV uk (zD hOV hEV (by decide)),hBV.grown uk hBV.size (fun g hg=>yN hX4 (hEV.lt g hg).1),yN hsV uk.size⟩,ryb_write v' (U qH) jo⟩
         rw [show upd f 13 v' 13 = v' from zp _ _ _]
         show w'.ownsRow _ _ _ _ (evs ++ [expE o]).length _
         rw [yP,List.flatMap_append]
         simpa using xN
        | 14,Z =>
         obtain rfl:=ya Z
         have hn:x[13]? = some true:=Q ⟨13,.data⟩ (by simp) rfl
         clear Q X xo xn
         rw [if_pos (by rfl)];unfold Oper.wp;go_simp
         exact ⟨upd f 14 (f 13),by simp [upd],ry_after (U xz) 14 _ hn (by decide) (fun h=>h),ryb_lay xy⟩
        | n + 15,Z=>simp at Z
       ·rintro x xm V ⟨f,rfl,X,hA⟩ hx xP
        have xp:=zR xP hx (by kernel_rfl)
        have e14:f 14 = f 13:=hA.1 (xp 14 (by simp))
        obtain ⟨q1,q2,q3,q4,q5⟩:=X.m (xp 13 (by simp))
        rw [← e14] at q1
        have pj:=Y q1
        have HQ2:=Y q2
        have HQ3:=Y q3
        have HQ4:=Y q4
        clear X hA xp xP hx q1 q2 q3 q4 e14
        dsimp only
        generalize f 0 = w0,f 1 = w1,f 2 = w2,f 3 = w3,f 4 = w4,f 5 = w5,f 6 = w6,f 7 = w7,f 8 = w8,f 9 = w9,f 10 = pz,f 11 = w11,f 12 = w12,f 13 = w13
        generalize f 14 = w14 at pj ⊢
        go_wp2_with fail
        dsimp only [H,I,J,M,yj,yk,yu,yv,yw,yp,yq,eF]
        go_roundw
        case rel=>exact ⟨k + 1,by omega,by go_num,by rw [U HNXE]; exact U pj,by rw [U kO]; exact U HQ2,U HQ3,U HQ4,q5⟩
        case measure=>simp [intOf]; omega
      ·have po:(o.life == 1) = false:=by rw [xd]; exact hd
       have qb:=Y (take_no (U HKO) hd)
       have HNY:=Y (take_nd (U HKO) hd)
       clear hd
       obtain ⟨hE,hL,hO,hB9,hs4⟩:=U ub
       have hlev:(⟨8,zCm,0,0,(nd:Int),0,0⟩ :: ((l.take k).filter dyB).map expE:List Ev).length ≤ 100:=by
        have G:((l.take k).filter dyB).length ≤ 20:=yN (List.length_filter_le _ _) (yN (List.length_take_le _ _) (by omega))
        simp only [List.length_cons,List.length_map]; omega
       have hllf:((l.take k).filter ndy).length ≤ 20:=yN (List.length_filter_le _ _) (yN (List.length_take_le _ _) (by omega))
       have HNXE:Hid ((⟨8,zCm,0,0,(nd:Int),0,0⟩ :: ((l.take (k + 1)).filter dyB).map expE:List Ev) = (⟨8,zCm,0,0,(nd:Int),0,0⟩ :: ((l.take k).filter dyB).map expE)):=by show _ = _; rw [U qb]
       have kO:=U HNY
       generalize (⟨8,zCm,0,0,(nd:Int),0,0⟩ :: ((l.take k).filter dyB).map expE:List Ev) = evs at hE hlev HNXE
       generalize (l.take k).filter ndy = LF at hL hllf kO
       have kO:=Y kO
       have HE:=Y hE
       have HL:=Y hL
       have HO:=Y hO
       have kL:=Y hB9
       clear hE hL hO hB9 ub
       have HLA:=Y ((U HL).alloc (eF (yv o.id o.side o.ticks o.left o.life o.tag).toArray 49))
       have qO:Hid (yn wr (wr.alloc (eF (yv o.id o.side o.ticks o.left o.life o.tag).toArray 49))):=eD _ _
       go_wp2_with (at_builtin; go_must (refine wpList_append_own _ rfl _ _ 26 rfl w4.heap.size 49 i0 _ 6 56 Tryz.underlying26 uH uF uJ uQ rfl (by decide) u12 LF.length (LF.flatMap Od.vs) rfl (U HLA) (yq wr 0) 1 1 o.vs rfl rfl (cE wr o.vs 49) (one_od o) (by unfold maxLen; omega) (by omega) (yN hs4 (U qO).size) ?_); intro v5 w5 vy aE _; have kP:=Y vy; have jE:=Y aE; clear vy aE)
       have HN:Hid (ERow w5 w4.heap.size u11 evs∧ORow w5 w4.heap.size v5 (LF ++ [o])∧ORow w5 hR.heap.size (.slice (some (J b off)) l.length c6) l∧yn hR w5∧w4.heap.size ≤ w5.heap.size):=by
        have hEA:=zI (U HE) (U qO)
        have hOA:=zm (U HO) (U qO)
        have hBA:=(U kL).trans ((U qO).mono (U kL).size)
        refine ⟨World.ownsRow.kept hEA (U jE) (zD hEA (U HLA) (by decide)),?_,World.ownsRow.kept hOA (U jE) (.inr fun e=>?_),hBA.grown (U jE) hBA.size (fun g hg=>yN hX4 ((U HLA).lt g hg).1),yN hs4 (yN (U qO).size (U jE).size)⟩
        ·show w5.ownsRow _ _ _ _ (LF ++ [o]).length _
         rw [yP,List.flatMap_append]
         simpa using U kP
        ·have G:=U hO4lt b rfl
         have E:=((U HLA).lt b e.symm).1
         omega
       clear kP jE
       go_wp2_with fail
       dsimp only [H,I,J,M,yj,yk,yu,yv,yw,yp,yq,eF]
       go_roundw
       case rel=>exact ⟨k + 1,by omega,by go_num,by rw [U HNXE]; exact (U HN).1,by rw [U kO]; exact (U HN).2.1,(U HN).2.2.1,(U HN).2.2.2.1,(U HN).2.2.2.2⟩
       case measure=>simp [intOf]; omega
     ·obtain rfl:k = l.length:=by omega
      have un:¬ (l.length:Int) < l.length:=by omega
      obtain ⟨hE,hL,hO,hB9,hs4⟩:=U ub
      rw [yZ qt] at hE hL
      have HSL9:Hid (sL = l.filter ndy):=(U uK).2.1
      generalize l.filter ndy = LF at hL HSL9
      obtain ⟨al,cl,hv⟩:=zT hL
      subst hv
      obtain ⟨z0,z1,y0,y1,y2,y3,y4,y5,y6,y7⟩:=U xK wr hB9
      have qm:=zg (U HB).2.2.2.2.1 hB9 vS
      obtain ⟨p0,x0,f0⟩:=ze qm (j:=0) (by omega)
      obtain ⟨p1,x1,f1⟩:=ze qm (j:=1) (by omega)
      have hBW:=(U HB).2.2.2.2.2.trans (hB9.mono (U HB).2.2.2.2.2.size)
      have HWF:Hid (yn w ((wr.setCell (J (w.heap.size + 1 + 1) 0) (H next)).setCell (J (w.heap.size + 1 + 1) 1) (.slice al LF.length cl))):=(hBW.setCell (p:=(J (w.heap.size + 1 + 1) 0)) (show w.heap.size ≤ w.heap.size + 1 + 1 by omega) _).setCell (p:=(J (w.heap.size + 1 + 1) 1)) (show w.heap.size ≤ w.heap.size + 1 + 1 by omega) _
      have hS4:w.heap.size + 1 + 1 < w4.heap.size:=by omega
      have HEF:Hid (ERow ((wr.setCell (J (w.heap.size + 1 + 1) 0) (H next)).setCell (J (w.heap.size + 1 + 1) 1) (.slice al LF.length cl)) w.heap.size u11 _):=zH (cU (cU hE hS4 0 _) hS4 1 _) (by omega)
      have HLF:Hid (ORow ((wr.setCell (J (w.heap.size + 1 + 1) 0) (H next)).setCell (J (w.heap.size + 1 + 1) 1) (.slice al LF.length cl)) w.heap.size (.slice al LF.length cl) LF):=zH (bP (bP hL hS4 0 _) hS4 1 _) (by omega)
      have d0:((wr.setCell (J (w.heap.size + 1 + 1) 0) (H next)).setCell (J (w.heap.size + 1 + 1) 1) (.slice al LF.length cl)).cell? (J (w.heap.size + 1 + 1) 0) = some (H next):=(yL _ _ _ _ (zP (by decide))).trans (yM _ _ _ x0)
      have d1:((wr.setCell (J (w.heap.size + 1 + 1) 0) (H next)).setCell (J (w.heap.size + 1 + 1) 1) (.slice al LF.length cl)).cell? (J (w.heap.size + 1 + 1) 1) = some (.slice al LF.length cl):=yM _ _ _ ((yL _ _ _ _ (zP (by decide))).trans x1)
      have oy:=Y d0
      have jd:=Y d1
      clear hE hL hO hB9 ub qm hBW d0 d1 y0 y1 y2 y3 y4 y5 y6 y7
      go_wp2_with fail
      have d0:=U oy
      have d1:=U jd
      try simp only [Exit.inBlock,Exit.then]
      refine bodyPost_ret (by simp [results,Tryz.results44,go_sem,d0,d1]; try rfl) rfl ?_
      obtain ⟨rfl,-,ka⟩:=U uK
      rw [← U HND] at ka
      have kz:=U HSL9
      subst kz ka
      exact ⟨_,_,rfl,U HLF,U HEF,U HWF⟩
  ·have oa:=vf
   have qM:(rr == 0) = false:=by rw [xd]; exact vf
   have uK:Hid (sN = next∧sL = l∧sE = [⟨2,⟨kk,s,ty,li,O,ii,pr,cutB L⟩,0,0,0,0,rr⟩]):=⟨by rw [U vj,if_neg (fun h=>vf h.1)],by rw [U uE,if_neg vf],by rw [U vi,if_neg vf]⟩
   skip
   exact absurd (U uB).1 oa
 rcases U vP with hs | ⟨ad,nn,cc,hs⟩
 ·simp only [Value.slice.injEq] at hs
  obtain ⟨rfl,pS,rfl⟩:=hs
  obtain rfl:=List.length_eq_zero_iff.1 pS
  obtain ⟨z0,z1,y0,y1,y2,y3,y4,y5,y6,y7⟩:=U xK hR (Below.refl _ _)
  have vI:=Y (World.ownsRow_made (base:=hR.heap.size) (e:=49) (size:=6) hR #[] 0 qt (by decide) rfl)
  have hzX:World.cell? (hR.alloc (eF #[] 49)) (yq w 1) = some (.slice none 0 0):=(U xK _ (eD _ _)).2.1
  have kQ:=Y HT
  clear HT hK
  go_wp2_with (at_builtin; go_must (refine wpList_append_own_none rfl _ _ 26 rfl hR.heap.size 49 i0 6 Tryz.underlying26 uH (.slice (some (yq hR 0)) 0 0) 0 [] rfl (U vI) rfl ?_))
  exact U kQ _ _ _ (U vI) (eD _ _)
 ·simp only [Value.slice.injEq] at hs
  obtain ⟨rfl,rfl,rfl⟩:=hs
  obtain ⟨z0,z1,y0,y1,y2,y3,y4,y5,y6,y7⟩:=U xK hR (Below.refl _ _)
  have uN:Hid (yn hR (hR.alloc (eF #[] 49))):=eD _ _
  have vI:=Y (World.ownsRow_made (base:=hR.heap.size) (e:=49) (size:=6) hR #[] 0 qt (by decide) rfl)
  have hzX:World.cell? (hR.alloc (eF #[] 49)) (yq w 1) = some (.slice (some ad) l.length A):=(U xK _ (U uN)).2.1
  have uZ:Hid (∀ j u,(l.flatMap Od.vs)[j]? = some u→World.cell? (hR.alloc (eF #[] 49)) (ad.add j) = some u):=rd_src (zn (U HR) ((U HB).2.2.2.2.2.trans ((U uN).mono (U HB).2.2.2.2.2.size)) qt)
  have kQ:=Y HT
  clear HT hK
  go_wp2_with (at_builtin; go_must (refine wpList_append_own _ rfl _ _ 26 rfl hR.heap.size 49 i0 _ 6 56 Tryz.underlying26 uH uF uJ uQ rfl (by decide) (.slice (some (yq hR 0)) 0 0) 0 [] rfl (U vI) ad l.length A (l.flatMap Od.vs) rfl (by rw [zK Od.len]) (U uZ) (bE l) (by unfold maxLen; omega) (by omega) (U uN).size ?_); intro v1 w1 uY qq _; have vp:=Y uY; have kA:=Y qq; clear uY qq)
  have aB:Hid (ORow w1 hR.heap.size v1 l):=by
   show w1.ownsRow _ _ _ _ l.length _
   simpa using U vp
  obtain ⟨a6,c6,hv⟩:=zT (U aB)
  subst hv
  exact U kQ _ _ _ (U aB) ((U uN).grown (U kA) (U uN).size (fun k hk=>((U vI).lt k hk).1))
end Go.Proofs.YtbakanofkghmiaaGreat
