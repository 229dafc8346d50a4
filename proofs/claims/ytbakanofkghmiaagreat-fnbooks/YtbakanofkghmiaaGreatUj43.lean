/-
  A command done on a book, by the model: proved by walking the function.
-/
import Derived.Test.YtbakanofkghmiaaGreatUj41
set_option linter.unusedVariables false
set_option maxHeartbeats 6400000
set_option maxRecDepth 100000
namespace Go.Proofs.YtbakanofkghmiaaGreat
open Go.RowKit
theorem l04Step_y (next:Int) (vb:Value) (l:List Od) (c:Cm) (w:World) (qX:refR next l c = 0∧c.k = 4) (hr:RdR Od.vs 6 w vb l) (hs:SlOk vb) (hg:GoodL l) (uC:∀ x ∈ l,x.side = 1 ∨ x.side = 2) (h0:0 ≤ next) (G:next ≤ 1000000) (ht:c.g.size ≤ maxLen) :
  Calls Tryz.prog 44 #[.agg #[H next,vb],cmV c] w fun e w'=>∃ vq vg,e = yl (.tuple #[.agg #[H (stN next l c),vq],vg])∧ORow w' w.heap.size vq (stL next l c)∧ERow w' w.heap.size vg (stE next l c)∧ym w w':=by
 obtain ⟨i0,uE,uF,uK,uV⟩:=info_parts Tryz.infoOrder
 obtain ⟨j0,jz,jI,kX,hy2⟩:=info_parts infoEv
 have HR:=Y hr
 have vC:=Y hs
 have HG:=Y hg
 have qw:=Y ht
 have vR:=hg.len
 have uG:Hid (0 ≤ next∧next ≤ 1000000):=⟨h0,G⟩
 have uQ:=Y (fun (W:World) hW=>dw next vb l c W hW hs hg uC ht)
 rw [ref_eq] at uQ
 have HK:=Y (@cY next l c)
 have HQ:=Y (@cJ next l c)
 have qJ:=Y (@ref_id next l c)
 have jD:=Y (@ref_newS next l c)
 have uA:=Y qX
 clear qX
 have uX:Hid (stN next l c = if refR next l c = 0∧c.k = 1 then next + 1 else next):=rfl
 have uD:=Y (stL.eq_1 next l c)
 have uW:=Y (stE.eq_1 next l c)
 have ou:=Y (fun W=>dv c W ht)
 have qO:=Y (fun (a:Option Addr) (n A:Nat) (W:World)=>di next a n A c W)
 have kb:=Y (fun (v:Value) (W:World) hr hs hp jq qU=>dh v l c next W hr hg hs hp jq qU)
 obtain ⟨a,A,rfl,vF,hc⟩:=hr
 obtain ⟨kk,s,ty,li,F,ii,pr,L⟩:=c
 generalize stN next l ⟨kk,s,ty,li,F,ii,pr,L⟩ = sN at uX ⊢
 generalize stL next l ⟨kk,s,ty,li,F,ii,pr,L⟩ = sL at uD ⊢
 generalize stE next l ⟨kk,s,ty,li,F,ii,pr,L⟩ = sE at uW ⊢
 generalize refR next l ⟨kk,s,ty,li,F,ii,pr,L⟩ = rr at uQ uX uD uW HK HQ qJ jD uA
 unfold cmV at uQ qO ⊢
 simp only at uQ uX uD uW HK HQ qJ jD ou qO kb qw uA ⊢
 have HB:=Y (box3 w [H next,.slice a l.length A] (yv kk s ty li F ii pr L) [H 0,.slice none 0 0] 28 43 28)
 clear hs hg uC h0 G ht hc vF
 go_enter Tryz.func44,Tryz.ntmps44
 refine eF fun hj xq=>?_
 go_wp2_with fail
 refine U xq _ _ ?_
 clear xq
 change Hid ((((w.alloc (N #[H next,.slice a l.length A] 28)).alloc (N (yv kk s ty li F ii pr L).toArray 43)).alloc (N #[H 0,.slice none 0 0] 28)).heap.size = w.heap.size + 3∧World.rangeAt (((w.alloc (N #[H next,.slice a l.length A] 28)).alloc (N (yv kk s ty li F ii pr L).toArray 43)).alloc (N #[H 0,.slice none 0 0] 28)) w.heap.size 0 [H next,.slice a l.length A]∧World.rangeAt (((w.alloc (N #[H next,.slice a l.length A] 28)).alloc (N (yv kk s ty li F ii pr L).toArray 43)).alloc (N #[H 0,.slice none 0 0] 28)) (w.heap.size + 1) 0 (yv kk s ty li F ii pr L)∧World.rangeAt (((w.alloc (N #[H next,.slice a l.length A] 28)).alloc (N (yv kk s ty li F ii pr L).toArray 43)).alloc (N #[H 0,.slice none 0 0] 28)) (w.heap.size + 1 + 1) 0 [H 0,.slice none 0 0]∧World.there (((w.alloc (N #[H next,.slice a l.length A] 28)).alloc (N (yv kk s ty li F ii pr L).toArray 43)).alloc (N #[H 0,.slice none 0 0] 28)) (w.heap.size + 1 + 1) 0 2∧ym w (((w.alloc (N #[H next,.slice a l.length A] 28)).alloc (N (yv kk s ty li F ii pr L).toArray 43)).alloc (N #[H 0,.slice none 0 0] 28))) at HB
 generalize (((w.alloc (N #[H next,.slice a l.length A] 28)).alloc (N (yv kk s ty li F ii pr L).toArray 43)).alloc (N #[H 0,.slice none 0 0] 28)) = xm at HB ⊢
 have xG:Hid (∀ W:World,ym xm W→W.cell? (yp w 0) = some (H next)∧W.cell? (yp w 1) = some (.slice a l.length A)∧W.cell? (J (w.heap.size + 1) 0) = some (H kk)∧W.cell? (J (w.heap.size + 1) 1) = some (H s)∧W.cell? (J (w.heap.size + 1) 2) = some (H ty)∧W.cell? (J (w.heap.size + 1) 3) = some (H li)∧W.cell? (J (w.heap.size + 1) 4) = some (H F)∧W.cell? (J (w.heap.size + 1) 5) = some (H ii)∧W.cell? (J (w.heap.size + 1) 6) = some (yi pr)∧W.cell? (J (w.heap.size + 1) 7) = some (yj L)):=fun W hW =>
  have p:=zb (U HB).2.1 hW (by have:=(U HB).1; omega)
  have q:=zb (U HB).2.2.1 hW (by have:=(U HB).1; omega)
  ⟨p 0 _ rfl,p 1 _ rfl,q 0 _ rfl,q 1 _ rfl,q 2 _ rfl,q 3 _ rfl,q 4 _ rfl,q 5 _ rfl,q 6 _ rfl,q 7 _ rfl⟩
 have vz:w.heap.size + 1 + 1 < xm.heap.size:=by have:=(U HB).1; omega
 refine wp_seq_k fun hj hK=>?_
 have HT:∀ (a6:Option Addr) (c6:Nat) (w1:World),ORow w1 xm.heap.size (.slice a6 l.length c6) l→ym xm w1→hj { tmps:=#[.agg #[H next,.slice a l.length A],.agg (yv kk s ty li F ii pr L).toArray,yn w 0,I (w.heap.size + 1) 0,I (w.heap.size + 1 + 1) 0,.slice none 0 0,.slice a6 l.length c6,M,M,M,M,M,M,M,M,M,M,M,.slice (some (yp xm 0)) 0 0,yn w 1,.slice a l.length A,.slice a6 l.length c6,M,M,M,M,M,M,M,M,M,M,M,M,M,M,M,M,M,M,M,M,M,M,M,M,M,M,M,M,M,M,M,M,M,M,M,M,M,M,M,M,M,M,M,M,M,M,M,M,M,M,M,M,M,M,M,M,M,M,M,M,M,M,M,M,M,M,M,M,M,M,M,M,M,M,M,M,M,M,M,M,M,M,M,M,M,M,M,M,M,M,M,M,M,M,M,M,M,M,M,M,M,M,M,M,M,M,M,M,M,M,M,M,M,M,M,M,M,M,M,M,M,M,M,M,M,M,M,M,M,M,M,M,M,M,M,M,M,M,M,M,M,M,M,M,M,M,M,M,M],defers:=[] } w1:=by
  intro a6 c6 w1 vZ xU
  refine hK _ _ ?_
  clear hK
  have vl:=Y vZ
  have xW:=Y xU
  clear vZ xU
  obtain ⟨z0,z1,y0,y1,y2,y3,y4,y5,y6,y7⟩:=U xG w1 (U xW)
  refine eF fun hj xq=>?_
  go_wp2_with fail
  refine (U uQ w1 (zh (U HR) ((U HB).2.2.2.2.2.trans ((U xW).mono (U HB).2.2.2.2.2.size)) hb)).mono ?_
  rintro e w2 ⟨rfl,xS⟩
  have vV:=Y (zj (U vl) xS)
  have xD:=Y (eE (U xW) xS)
  clear z0 z1 y0 y1 y2 y3 y4 y5 y6 y7 xS vl
  obtain ⟨z0,z1,y0,y1,y2,y3,y4,y5,y6,y7⟩:=U xG w2 (U xD)
  have vN:=Y (ze (U HB).2.2.2.2.1 (U xD) vz)
  have ox:w.heap.size + 1 + 1 < w2.heap.size:=yH vz (U xD).size
  have xJ:=Y ((U HB).2.2.2.2.2.trans ((U xD).mono (U HB).2.2.2.2.2.size))
  have hXw:w.heap.size ≤ xm.heap.size:=by omega
  have hX2:xm.heap.size ≤ w2.heap.size:=(U xD).size
  have oi:=hX2
  by_cases vi:rr = 0
  ·subst vi
   have pD:=U HK rfl
   rcases pD with rfl | rfl | rfl | rfl
   ·exact absurd (U uA).2 (by decide)
   ·exact absurd (U uA).2 (by decide)
   ·exact absurd (U uA).2 (by decide)
   ·have uI:Hid (sN = next∧sL = l.filter ndy∧sE = ⟨8,zCm,0,0,((l.filter dyB).length:Nat),0,0⟩ :: (l.filter dyB).map expE):=⟨by rw [U uX,if_neg (fun h=>by have:=h.2; omega)],by rw [U uD,if_pos rfl,if_neg (by omega),if_neg (by omega),if_neg (by omega)],by rw [U uW,if_pos rfl,if_neg (by omega),if_neg (by omega),if_neg (by omega)]⟩
    clear uX uD uW HQ qJ HK jD qO kb ou
    go_wp2_with fail
    refine U xq _ _ ?_
    clear xq
    go_wp2_with fail
    refine (dj _ l ii w2 (zR (U vV) (by omega))).mono ?_
    generalize plc l ii = pk
    rintro e w3 ⟨rfl,uw⟩
    have qL:=Y (zj (U vV) uw)
    have xP:=Y (eE (U xD) uw)
    clear uw z0 z1 y0 y1 y2 y3 y4 y5 y6 y7 vN xJ ox oi
    have vN:=Y (ze (U HB).2.2.2.2.1 (U xP) vz)
    have ox:w.heap.size + 1 + 1 < w3.heap.size:=yH vz (U xP).size
    have xJ:=Y ((U HB).2.2.2.2.2.trans ((U xP).mono (U HB).2.2.2.2.2.size))
    have oi:xm.heap.size ≤ w3.heap.size:=(U xP).size
    obtain ⟨z0,z1,y0,y1,y2,y3,y4,y5,y6,y7⟩:=U xG w3 (U xP)
    go_wp2_with fail
    refine (l04Days_any _ l w3 (zR (U qL) (by omega)) (by omega)).mono ?_
    rintro e w4 ⟨v4,rfl,hI4,xy⟩
    obtain ⟨ad,cd,hv4⟩:=zL hI4
    subst hv4
    have hnd0:(dys l).length = (l.filter dyB).length:=dysF_len l 0
    clear hI4
    generalize (dys l).length = nd at hnd0 ⊢
    have HND:=Y hnd0
    have hnd20:nd ≤ 20:=by rw [hnd0]; exact yL (List.length_filter_le _ _) vR
    clear hnd0
    have oe:=Y (zj (U qL) xy)
    have xY:=Y (eE (U xP) xy)
    clear xy z0 z1 y0 y1 y2 y3 y4 y5 y6 y7
    have hsE:=zf w4 (N (yt 8 0 0 0 0 0 0 0 ⟨#[]⟩ 0 0 nd 0 0).toArray 46)
    have hbE:ym w4 ((w4.alloc (N (yt 8 0 0 0 0 0 0 0 ⟨#[]⟩ 0 0 nd 0 0).toArray 46)).alloc (N #[] 49)):=(eB _ _).alloc (by rw [hsE]; omega) _
    have vJ:Hid (ERow ((w4.alloc (N (yt 8 0 0 0 0 0 0 0 ⟨#[]⟩ 0 0 nd 0 0).toArray 46)).alloc (N #[] 49)) w4.heap.size (.slice (some (yp w4 0)) 1 1) [⟨8,zCm,0,0,(nd:Int),0,0⟩]):=(eRow_one w4 ⟨8,zCm,0,0,(nd:Int),0,0⟩ hb).alloc _
    have HL5:Hid (ORow ((w4.alloc (N (yt 8 0 0 0 0 0 0 0 ⟨#[]⟩ 0 0 nd 0 0).toArray 46)).alloc (N #[] 49)) w4.heap.size (.slice (some (J (w4.heap.size + 1) 0)) 0 0) []):=by have:=World.ownsRow_made (base:=w4.heap.size) (e:=49) (size:=6) (w4.alloc (N (yt 8 0 0 0 0 0 0 0 ⟨#[]⟩ 0 0 nd 0 0).toArray 46)) #[] 0 (by rw [hsE]; omega) (by decide) rfl; rw [hsE] at this; exact this
    have kL:=Y (zj (U oe) hbE)
    have jf:=Y (eE (U xY) hbE)
    have h45:w4.heap.size ≤ ((w4.alloc (N (yt 8 0 0 0 0 0 0 0 ⟨#[]⟩ 0 0 nd 0 0).toArray 46)).alloc (N #[] 49)).heap.size:=hbE.size
    have hX4:xm.heap.size ≤ w4.heap.size:=(U xY).size
    have hO4lt:Hid (∀ g,(Value.slice a6 l.length c6).ownBlock = some g→g < w4.heap.size):=fun g hg=>((U oe).lt g hg).2
    clear hsE hbE
    have hsf:=sfl
    go_wp2_with fail
    generalize ((w4.alloc (N (yt 8 0 0 0 0 0 0 0 ⟨#[]⟩ 0 0 nd 0 0).toArray 46)).alloc (N #[] 49)) = W5 at vJ HL5 kL jf h45 ⊢
    go_loopw [11,12,13] (fun evv lfv iv wr=>∃ (k:Nat),k ≤ l.length∧iv = H k∧Hid (ERow wr w4.heap.size evv (⟨8,zCm,0,0,(nd:Int),0,0⟩ :: ((l.take k).filter dyB).map expE)∧ORow wr w4.heap.size lfv ((l.take k).filter ndy)∧ORow wr xm.heap.size (.slice a6 l.length c6) l∧ym xm wr∧w4.heap.size ≤ wr.heap.size)) (fun _ _ iv _=>l.length - (intOf iv).toNat)
    case atStart=>exact ⟨0,Nat.zero_le _,rfl,U vJ,U HL5,U kL,U jf,h45⟩
    case round =>
     obtain ⟨k,hk,rfl,ur⟩:=hrel
     by_cases xI:k < l.length
     ·obtain ⟨o,hko⟩:∃ o,l[k]? = some o:=⟨_,yF xI⟩
      obtain ⟨a',c',e1,_,X⟩:=zR (U ur).2.2.1 (by omega)
      obtain ⟨b,off,e2,O,X⟩:=X (by rintro rfl; simp at hko)
      simp only [Value.slice.injEq] at e1
      obtain ⟨e1,-,-⟩:=e1
      rw [e2] at e1
      subst e1
      have HCL:=Y (X k o hko)
      obtain ⟨g0,g1,g2,g3,g4,g5⟩:=zz (X k o hko)
      have uu:(k:Int) < l.length:=by omega
      have hk0:(0:Int) ≤ k:=by omega
      have HKO:=Y hko
      clear X hko O e2
      by_cases hd:o.life = 1
      ·have hbd:(o.life == 1) = true:=by simpa using hd
       have qE:=Y (take_dy (U HKO) hd)
       have HNY:=Y (take_ny (U HKO) hd)
       clear hd
       go_wp2_with fail
       obtain ⟨hE,hL,hO,hB9,hs4⟩:=U ur
       have hlev:(⟨8,zCm,0,0,(nd:Int),0,0⟩ :: ((l.take k).filter dyB).map expE:List Ev).length ≤ 100:=by
        have G:((l.take k).filter dyB).length ≤ 20:=yL (List.length_filter_le _ _) (yL (List.length_take_le _ _) (by omega))
        simp only [List.length_cons,List.length_map]; omega
       have hllf:((l.take k).filter ndy).length ≤ 20:=yL (List.length_filter_le _ _) (yL (List.length_take_le _ _) (by omega))
       have HNXE:Hid ((⟨8,zCm,0,0,(nd:Int),0,0⟩ :: ((l.take (k + 1)).filter dyB).map expE:List Ev) = (⟨8,zCm,0,0,(nd:Int),0,0⟩ :: ((l.take k).filter dyB).map expE) ++ [expE o]):=by show _ = _; rw [U qE,List.map_append]; rfl
       have kK:=U HNY
       generalize (⟨8,zCm,0,0,(nd:Int),0,0⟩ :: ((l.take k).filter dyB).map expE:List Ev) = evs at hE hlev HNXE
       generalize (l.take k).filter ndy = LF at hL hllf kK
       have kK:=Y kK
       have HE:=Y hE
       have HL:=Y hL
       have HO:=Y hO
       have ka:=Y hB9
       clear hE hL hO hB9 ur
       have HG0:=Y g0
       have qf:=Y g3
       clear g0 g1 g2 g3 g4 g5
       refine zi (RYBA (fun f=>{ tmps:=#[.agg #[H next,.slice a l.length A],.agg (yv 4 s ty li F ii pr L).toArray,yn w 0,I (w.heap.size + 1) 0,I (w.heap.size + 1 + 1) 0,.slice none 0 0,.slice (some (J b off)) l.length c6,H 0,H pk,M,.slice ad nd cd,f 14,u12,H k,M,M,M,M,.slice (some (yp xm 0)) 0 0,yn w 1,.slice a l.length A,.slice (some (J b off)) l.length c6,.agg #[H next,.slice a l.length A],.agg (yv 4 s ty li F ii pr L).toArray,H 0,H 0,.bool false,M,M,M,M,M,M,M,M,M,.slice (some (J b off)) l.length c6,I (w.heap.size + 1) 5,H ii,H pk,I (w.heap.size + 1) 0,H 4,.bool false,.bool false,M,M,M,M,M,M,M,M,M,M,M,M,M,M,M,M,.bool false,.bool false,M,M,M,M,M,M,M,M,M,M,M,M,M,M,M,M,.bool true,.bool true,.slice (some (J b off)) l.length c6,.slice ad nd cd,.slice ad nd cd,H nd,.agg (yt 8 0 0 0 0 0 0 0 ⟨#[]⟩ 0 0 nd 0 0).toArray,.slice (some (yp w4 0)) 1 1,.slice (some (J (w4.heap.size + 1) 0)) 0 0,H k,.slice (some (J b off)) l.length c6,H l.length,.bool true,u91,u92,.slice (some (J b off)) l.length c6,H k,I b (off + k * 6),I b (off + k * 6 + 4),H o.life,.bool true,f 0,f 1,f 2,f 3,f 4,f 5,f 6,f 7,f 8,f 9,f 10,f 11,f 12,f 13,u113,u114,u115,u116,u117,u118,u119,M,M,M,M,M,M,M,M,M,M,M,M,M,M,M,M,M,M,M,M,M,M,M,M,M,M,M,M,M,M,M,M,M,M,M,M,M,M,M,M,M,M,M,M,M,M,M,M,M,M,M],defers:=[] }) (CX [u11,.slice (some (J b off)) l.length c6,H k,I b (off + k * 6),I b (off + k * 6),H o.id,.slice (some (J b off)) l.length c6,H k,I b (off + k * 6),I b (off + k * 6 + 3),H o.left,.agg (yt 9 0 0 0 0 0 0 0 ⟨#[]⟩ o.id 0 o.left 0 0).toArray,M,M,M] [(12,3)] (w4.heap.size) 0 [] ([expE o])) 13 (u11) (fun f W=>ERow W w4.heap.size (f 13) (evs ++ [expE o])∧ORow W w4.heap.size u12 LF∧ORow W xm.heap.size (.slice (some (J b off)) l.length c6) l∧ym xm W∧w4.heap.size ≤ W.heap.size) wr) (by kernel_rfl) ?_ ?_ ?_
       ·exact ⟨fun j=>([u99,u100,u101,u102,u103,u104,u105,u106,u107,u108,u109,u110,u111,u112,u11]:List Value)[j]?.getD M,rfl,ry_start (by decide),ryb_start rfl⟩
       rotate_left
       ·rintro x xj V i op ⟨f,rfl,E,hA⟩ X hx Z xu Q
        have xw:=Y E
        have qC:=Y hA
        clear hA
        have xk:x[13]? = some false→∀ (p:Addr) u,wr.cell? p = some u→V.cell? p = some u:=fun hn p u hu=>((E.b hn).cell (yI wr _ hu)).trans hu
        match i,Z with
        | 0,Z =>
         obtain rfl:=ya Z
         have hn:x[13]? = some false:=zy X 12 0 13 (by kernel_rfl) hx (by simp) xu
         have km:f 14 = u11:=(U qC).2 (zy X 12 0 14 (by kernel_rfl) hx (by simp) xu)
         clear Q E X xk
         rw [if_pos (by rfl)];unfold Oper.wp;go_simp
         exact ⟨upd f 0 u11,by simp [upd,km],zZ (U xw) 0 _ hn (by decide) (zY rfl rfl),aJ _ (U qC) (by decide) (by decide)⟩
        | 1,Z =>
         obtain rfl:=ya Z
         have hn:x[13]? = some false:=zy X 12 1 13 (by kernel_rfl) hx (by simp) xu
         clear Q E X xk
         rw [if_pos (by rfl)];unfold Oper.wp;go_simp
         exact ⟨upd f 1 (.slice (some (J b off)) l.length c6),by simp [upd],zZ (U xw) 1 _ hn (by decide) (zY rfl rfl),aJ _ (U qC) (by decide) (by decide)⟩
        | 2,Z =>
         obtain rfl:=ya Z
         have hn:x[13]? = some false:=zy X 12 2 13 (by kernel_rfl) hx (by simp) xu
         clear Q E X xk
         rw [if_pos (by rfl)];unfold Oper.wp;go_simp
         exact ⟨upd f 2 (H k),by simp [upd],zZ (U xw) 2 _ hn (by decide) (zY rfl rfl),aJ _ (U qC) (by decide) (by decide)⟩
        | 3,Z =>
         obtain rfl:=ya Z
         have hn:x[13]? = some false:=zy X 12 3 13 (by kernel_rfl) hx (by simp) xu
         have g1:f 1 = .slice (some (J b off)) l.length c6:=zU (E.c hn 1 (yd Q 1 rfl)) rfl rfl
         have g2:f 2 = H k:=zU (E.c hn 2 (yd Q 2 rfl)) rfl rfl
         clear Q E X xk
         rw [if_pos (by rfl)];unfold Oper.wp;go_simp
         exact ⟨upd f 3 (I b (off + k * 6)),by simp [upd,g1,g2],zZ (U xw) 3 _ hn (by decide) (zY rfl rfl),aJ _ (U qC) (by decide) (by decide)⟩
        | 4,Z =>
         obtain rfl:=ya Z
         have hn:x[13]? = some false:=zy X 12 4 13 (by kernel_rfl) hx (by simp) xu
         have g3:f 3 = I b (off + k * 6):=zU (E.c hn 3 (yd Q 3 rfl)) rfl rfl
         clear Q E X xk
         rw [if_pos (by rfl)];unfold Oper.wp;go_simp
         exact ⟨upd f 4 (I b (off + k * 6)),by simp [upd,g3],zZ (U xw) 4 _ hn (by decide) (zY rfl rfl),aJ _ (U qC) (by decide) (by decide)⟩
        | 5,Z =>
         obtain rfl:=ya Z
         have hn:x[13]? = some false:=zy X 12 5 13 (by kernel_rfl) hx (by simp) xu
         have g4:f 4 = I b (off + k * 6):=zU (E.c hn 4 (yd Q 4 rfl)) rfl rfl
         have q0:=xk hn (J b (off + k * 6)) _ (U HG0)
         clear Q E X xk
         rw [if_pos (by rfl)];unfold Oper.wp;go_simp
         exact ⟨upd f 5 (H o.id),by simp [upd,g4],zZ (U xw) 5 _ hn (by decide) (zY rfl rfl),aJ _ (U qC) (by decide) (by decide)⟩
        | 6,Z =>
         obtain rfl:=ya Z
         have hn:x[13]? = some false:=zy X 12 6 13 (by kernel_rfl) hx (by simp) xu
         clear Q E X xk
         rw [if_pos (by rfl)];unfold Oper.wp;go_simp
         exact ⟨upd f 6 (.slice (some (J b off)) l.length c6),by simp [upd],zZ (U xw) 6 _ hn (by decide) (zY rfl rfl),aJ _ (U qC) (by decide) (by decide)⟩
        | 7,Z =>
         obtain rfl:=ya Z
         have hn:x[13]? = some false:=zy X 12 7 13 (by kernel_rfl) hx (by simp) xu
         clear Q E X xk
         rw [if_pos (by rfl)];unfold Oper.wp;go_simp
         exact ⟨upd f 7 (H k),by simp [upd],zZ (U xw) 7 _ hn (by decide) (zY rfl rfl),aJ _ (U qC) (by decide) (by decide)⟩
        | 8,Z =>
         obtain rfl:=ya Z
         have hn:x[13]? = some false:=zy X 12 8 13 (by kernel_rfl) hx (by simp) xu
         have g6:f 6 = .slice (some (J b off)) l.length c6:=zU (E.c hn 6 (yd Q 6 rfl)) rfl rfl
         have g7:f 7 = H k:=zU (E.c hn 7 (yd Q 7 rfl)) rfl rfl
         clear Q E X xk
         rw [if_pos (by rfl)];unfold Oper.wp;go_simp
         exact ⟨upd f 8 (I b (off + k * 6)),by simp [upd,g6,g7],zZ (U xw) 8 _ hn (by decide) (zY rfl rfl),aJ _ (U qC) (by decide) (by decide)⟩
        | 9,Z =>
         obtain rfl:=ya Z
         have hn:x[13]? = some false:=zy X 12 9 13 (by kernel_rfl) hx (by simp) xu
         have g8:f 8 = I b (off + k * 6):=zU (E.c hn 8 (yd Q 8 rfl)) rfl rfl
         clear Q E X xk
         rw [if_pos (by rfl)];unfold Oper.wp;go_simp
         exact ⟨upd f 9 (I b (off + k * 6 + 3)),by simp [upd,g8],zZ (U xw) 9 _ hn (by decide) (zY rfl rfl),aJ _ (U qC) (by decide) (by decide)⟩
        | 10,Z =>
         obtain rfl:=ya Z
         have hn:x[13]? = some false:=zy X 12 10 13 (by kernel_rfl) hx (by simp) xu
         have g9:f 9 = I b (off + k * 6 + 3):=zU (E.c hn 9 (yd Q 9 rfl)) rfl rfl
         have q3:=xk hn (J b (off + k * 6 + 3)) _ (U qf)
         clear Q E X xk
         rw [if_pos (by rfl)];unfold Oper.wp;go_simp
         exact ⟨upd f 10 (H o.left),by simp [upd,g9],zZ (U xw) 10 _ hn (by decide) (zY rfl rfl),aJ _ (U qC) (by decide) (by decide)⟩
        | 11,Z =>
         obtain rfl:=ya Z
         have hn:x[13]? = some false:=zy X 12 11 13 (by kernel_rfl) hx (by simp) xu
         have g5:f 5 = H o.id:=zU (E.c hn 5 (yd Q 5 rfl)) rfl rfl
         have qy:f 10 = H o.left:=zU (E.c hn 10 (yd Q 10 rfl)) rfl rfl
         clear Q E X xk
         rw [if_pos (by rfl)];unfold Oper.wp;go_simp
         exact ⟨upd f 11 (.agg (yt 9 0 0 0 0 0 0 0 ⟨#[]⟩ o.id 0 o.left 0 0).toArray),by simp [upd,g5,qy],zZ (U xw) 11 _ hn (by decide) (zY rfl rfl),aJ _ (U qC) (by decide) (by decide)⟩
        | 12,Z =>
         obtain rfl:=ya Z
         have hn:x[13]? = some false:=zy X 12 12 13 (by kernel_rfl) hx (by simp) xu
         have vI:f 11 = .agg (yt 9 0 0 0 0 0 0 0 ⟨#[]⟩ o.id 0 o.left 0 0).toArray:=zU (E.c hn 11 (yd Q 11 rfl)) rfl rfl
         have qW:=yL hs4 (E.b hn).size
         clear Q E X xk
         rw [if_pos (by rfl)];unfold Oper.wp;go_simp
         exact ⟨upd f 12 (.slice (some (yp V 0)) 1 1),by simp [upd,vI],zZ (ry_grow (cx_monoB (by omega)) (U xw) hn (eB _ _)) 12 _ hn (by decide) (bI (d:=3) rfl ⟨V.heap.size,rfl,by rw [zf]; omega,qW,zg V (expE o).vs _⟩),aJ _ (U qC) (by decide) (by decide)⟩
        | 13,Z =>
         obtain rfl:=ya Z
         have hn:x[13]? = some false:=xu
         have g0:f 0 = u11:=zU (E.c hn 0 (yd Q 0 rfl)) rfl rfl
         obtain ⟨qp,ub,kp,_,hr12⟩:=cx_sp (d:=3) (E.c hn 12 (yd Q 12 rfl)) rfl
         have jk:x[14]? = some false:=zy X 12 13 14 (by kernel_rfl) hx (by simp) xu
         have xV:=E.b hn
         have hEV:=zI (U HE) xV
         have hLV:=zj (U HL) xV
         have hOV:=zj (U HO) xV
         have hBV:=(U ka).trans (xV.mono (U ka).size)
         have hsV:=yL hs4 xV.size
         rw [if_pos (by rfl)]
         refine wp_append_own V (.tmp 99) (.tmp 111) 38 rfl w4.heap.size 46 j0 _ 14 120 Tryz.underlying38 jz jI kX hy2 rfl (by decide) u11 evs.length (evs.flatMap Ev.vs) g0 hEV (J qp 0) 1 1 (expE o).vs ub rfl (fun j u hu=>by rw [Addr.add_mid]; exact hr12 j u hu) (one_ev (expE o)) (by unfold maxLen; omega) (by omega) hsV ?_
         intro v' w' xN uc _
         refine ⟨upd f 13 v',rfl,ry_write (U xw) hn v' ⟨?_,World.ownsRow.kept hLV uc (zC hLV hEV (by decide)),World.ownsRow.kept hOV uc (zC hOV hEV (by decide)),hBV.grown uc hBV.size (fun g hg=>yL hX4 (hEV.lt g hg).1),yL hsV uc.size⟩,ryb_write v' (U qC) jk⟩
         rw [show upd f 13 v' 13 = v' from zn _ _ _]
         show w'.ownsRow _ _ _ _ (evs ++ [expE o]).length _
         rw [yN,List.flatMap_append]
         simpa using xN
        | 14,Z =>
         obtain rfl:=ya Z
         have hn:x[13]? = some true:=Q ⟨13,.data⟩ (by simp) rfl
         clear Q E X xk
         rw [if_pos (by rfl)];unfold Oper.wp;go_simp
         exact ⟨upd f 14 (f 13),by simp [upd],ry_after (U xw) 14 _ hn (by decide) (fun h=>h),ryb_lay xu⟩
        | n + 15,Z=>simp at Z
       ·rintro x xj V ⟨f,rfl,E,hA⟩ hx xL
        have xn:=zO xL hx (by kernel_rfl)
        have e14:f 14 = f 13:=hA.1 (xn 14 (by simp))
        obtain ⟨q1,q2,q3,q4,q5⟩:=E.m (xn 13 (by simp))
        rw [← e14] at q1
        have kM:=Y q1
        have HQ2:=Y q2
        have HQ3:=Y q3
        have HQ4:=Y q4
        clear E hA xn xL hx q1 q2 q3 q4 e14
        dsimp only
        generalize f 0 = w0,f 1 = w1,f 2 = w2,f 3 = w3,f 4 = w4,f 5 = w5,f 6 = w6,f 7 = w7,f 8 = w8,f 9 = w9,f 10 = oZ,f 11 = w11,f 12 = w12,f 13 = w13
        generalize f 14 = w14 at kM ⊢
        go_wp2_with fail
        dsimp only [H,I,J,M,yi,yj,yt,yu,yv,yn,yp,N]
        go_roundw
        case rel=>exact ⟨k + 1,by omega,by go_num,by rw [U HNXE]; exact U kM,by rw [U kK]; exact U HQ2,U HQ3,U HQ4,q5⟩
        case measure=>simp [intOf]; omega
      ·have hbd:(o.life == 1) = false:=by rw [xb]; exact hd
       have qE:=Y (take_no (U HKO) hd)
       have HNY:=Y (take_nd (U HKO) hd)
       clear hd
       obtain ⟨hE,hL,hO,hB9,hs4⟩:=U ur
       have hlev:(⟨8,zCm,0,0,(nd:Int),0,0⟩ :: ((l.take k).filter dyB).map expE:List Ev).length ≤ 100:=by
        have G:((l.take k).filter dyB).length ≤ 20:=yL (List.length_filter_le _ _) (yL (List.length_take_le _ _) (by omega))
        simp only [List.length_cons,List.length_map]; omega
       have hllf:((l.take k).filter ndy).length ≤ 20:=yL (List.length_filter_le _ _) (yL (List.length_take_le _ _) (by omega))
       have HNXE:Hid ((⟨8,zCm,0,0,(nd:Int),0,0⟩ :: ((l.take (k + 1)).filter dyB).map expE:List Ev) = (⟨8,zCm,0,0,(nd:Int),0,0⟩ :: ((l.take k).filter dyB).map expE)):=by show _ = _; rw [U qE]
       have kK:=U HNY
       generalize (⟨8,zCm,0,0,(nd:Int),0,0⟩ :: ((l.take k).filter dyB).map expE:List Ev) = evs at hE hlev HNXE
       generalize (l.take k).filter ndy = LF at hL hllf kK
       have kK:=Y kK
       have HE:=Y hE
       have HL:=Y hL
       have HO:=Y hO
       have ka:=Y hB9
       clear hE hL hO hB9 ur
       have HLA:=Y ((U HL).alloc (N (yu o.id o.side o.ticks o.left o.life o.tag).toArray 49))
       have qd:Hid (ym wr (wr.alloc (N (yu o.id o.side o.ticks o.left o.life o.tag).toArray 49))):=eB _ _
       go_wp2_with (at_builtin; go_must (refine wpList_append_own _ rfl _ _ 26 rfl w4.heap.size 49 i0 _ 6 56 Tryz.underlying26 uE uF uK uV rfl (by decide) u12 LF.length (LF.flatMap Od.vs) rfl (U HLA) (yp wr 0) 1 1 o.vs rfl rfl (bW wr o.vs 49) (one_od o) (by unfold maxLen; omega) (by omega) (yL hs4 (U qd).size) ?_); intro v5 w5 vA au _; have kL:=Y vA; have jC:=Y au; clear vA au)
       have HN:Hid (ERow w5 w4.heap.size u11 evs∧ORow w5 w4.heap.size v5 (LF ++ [o])∧ORow w5 xm.heap.size (.slice (some (J b off)) l.length c6) l∧ym xm w5∧w4.heap.size ≤ w5.heap.size):=by
        have hEA:=zI (U HE) (U qd)
        have hOA:=zj (U HO) (U qd)
        have hBA:=(U ka).trans ((U qd).mono (U ka).size)
        refine ⟨World.ownsRow.kept hEA (U jC) (zC hEA (U HLA) (by decide)),?_,World.ownsRow.kept hOA (U jC) (.inr fun e=>?_),hBA.grown (U jC) hBA.size (fun g hg=>yL hX4 ((U HLA).lt g hg).1),yL hs4 (yL (U qd).size (U jC).size)⟩
        ·show w5.ownsRow _ _ _ _ (LF ++ [o]).length _
         rw [yN,List.flatMap_append]
         simpa using U kL
        ·have G:=U hO4lt b rfl
         have D:=((U HLA).lt b e.symm).1
         omega
       clear kL jC
       go_wp2_with fail
       dsimp only [H,I,J,M,yi,yj,yt,yu,yv,yn,yp,N]
       go_roundw
       case rel=>exact ⟨k + 1,by omega,by go_num,by rw [U HNXE]; exact (U HN).1,by rw [U kK]; exact (U HN).2.1,(U HN).2.2.1,(U HN).2.2.2.1,(U HN).2.2.2.2⟩
       case measure=>simp [intOf]; omega
     ·obtain rfl:k = l.length:=by omega
      have uu:¬ (l.length:Int) < l.length:=by omega
      obtain ⟨hE,hL,hO,hB9,hs4⟩:=U ur
      rw [yX hb] at hE hL
      have HSL9:Hid (sL = l.filter ndy):=(U uI).2.1
      generalize l.filter ndy = LF at hL HSL9
      obtain ⟨al,cl,hv⟩:=zL hL
      subst hv
      obtain ⟨z0,z1,y0,y1,y2,y3,y4,y5,y6,y7⟩:=U xG wr hB9
      have qh:=ze (U HB).2.2.2.2.1 hB9 vz
      obtain ⟨p0,x0,f0⟩:=zc qh (j:=0) (by omega)
      obtain ⟨p1,x1,f1⟩:=zc qh (j:=1) (by omega)
      have hBW:=(U HB).2.2.2.2.2.trans (hB9.mono (U HB).2.2.2.2.2.size)
      have HWF:Hid (ym w ((wr.setCell (J (w.heap.size + 1 + 1) 0) (H next)).setCell (J (w.heap.size + 1 + 1) 1) (.slice al LF.length cl))):=(hBW.setCell (p:=(J (w.heap.size + 1 + 1) 0)) (show w.heap.size ≤ w.heap.size + 1 + 1 by omega) _).setCell (p:=(J (w.heap.size + 1 + 1) 1)) (show w.heap.size ≤ w.heap.size + 1 + 1 by omega) _
      have hS4:w.heap.size + 1 + 1 < w4.heap.size:=by omega
      have HEF:Hid (ERow ((wr.setCell (J (w.heap.size + 1 + 1) 0) (H next)).setCell (J (w.heap.size + 1 + 1) 1) (.slice al LF.length cl)) w.heap.size u11 _):=zE (cE (cE hE hS4 0 _) hS4 1 _) (by omega)
      have HLF:Hid (ORow ((wr.setCell (J (w.heap.size + 1 + 1) 0) (H next)).setCell (J (w.heap.size + 1 + 1) 1) (.slice al LF.length cl)) w.heap.size (.slice al LF.length cl) LF):=zE (bE (bE hL hS4 0 _) hS4 1 _) (by omega)
      have d0:((wr.setCell (J (w.heap.size + 1 + 1) 0) (H next)).setCell (J (w.heap.size + 1 + 1) 1) (.slice al LF.length cl)).cell? (J (w.heap.size + 1 + 1) 0) = some (H next):=(yJ _ _ _ _ (zQ (by decide))).trans (yK _ _ _ x0)
      have d1:((wr.setCell (J (w.heap.size + 1 + 1) 0) (H next)).setCell (J (w.heap.size + 1 + 1) 1) (.slice al LF.length cl)).cell? (J (w.heap.size + 1 + 1) 1) = some (.slice al LF.length cl):=yK _ _ _ ((yJ _ _ _ _ (zQ (by decide))).trans x1)
      have oq:=Y d0
      have qY:=Y d1
      clear hE hL hO hB9 ur qh hBW d0 d1 y0 y1 y2 y3 y4 y5 y6 y7
      go_wp2_with fail
      have d0:=U oq
      have d1:=U qY
      try simp only [Exit.inBlock,Exit.then]
      refine bodyPost_ret (by simp [results,Tryz.results44,go_sem,d0,d1]; try rfl) rfl ?_
      obtain ⟨rfl,-,jZ⟩:=U uI
      rw [← U HND] at jZ
      have kt:=U HSL9
      subst kt jZ
      exact ⟨_,_,rfl,U HLF,U HEF,U HWF⟩
  ·have kU:=vi
   have qI:(rr == 0) = false:=by rw [xb]; exact vi
   have uI:Hid (sN = next∧sL = l∧sE = [⟨2,⟨kk,s,ty,li,F,ii,pr,cutB L⟩,0,0,0,0,rr⟩]):=⟨by rw [U uX,if_neg (fun h=>vi h.1)],by rw [U uD,if_neg vi],by rw [U uW,if_neg vi]⟩
   skip
   exact absurd (U uA).1 kU
 rcases U vC with hs | ⟨ad,nn,cc,hs⟩
 ·simp only [Value.slice.injEq] at hs
  obtain ⟨rfl,pE,rfl⟩:=hs
  obtain rfl:=List.length_eq_zero_iff.1 pE
  obtain ⟨z0,z1,y0,y1,y2,y3,y4,y5,y6,y7⟩:=U xG xm (Below.refl _ _)
  have vL:=Y (World.ownsRow_made (base:=xm.heap.size) (e:=49) (size:=6) xm #[] 0 hb (by decide) rfl)
  have hzX:World.cell? (xm.alloc (N #[] 49)) (yp w 1) = some (.slice none 0 0):=(U xG _ (eB _ _)).2.1
  have kN:=Y HT
  clear HT hK
  go_wp2_with (at_builtin; go_must (refine wpList_append_own_none rfl _ _ 26 rfl xm.heap.size 49 i0 6 Tryz.underlying26 uE (.slice (some (yp xm 0)) 0 0) 0 [] rfl (U vL) rfl ?_))
  exact U kN _ _ _ (U vL) (eB _ _)
 ·simp only [Value.slice.injEq] at hs
  obtain ⟨rfl,rfl,rfl⟩:=hs
  obtain ⟨z0,z1,y0,y1,y2,y3,y4,y5,y6,y7⟩:=U xG xm (Below.refl _ _)
  have uP:Hid (ym xm (xm.alloc (N #[] 49))):=eB _ _
  have vL:=Y (World.ownsRow_made (base:=xm.heap.size) (e:=49) (size:=6) xm #[] 0 hb (by decide) rfl)
  have hzX:World.cell? (xm.alloc (N #[] 49)) (yp w 1) = some (.slice (some ad) l.length A):=(U xG _ (U uP)).2.1
  have vf:Hid (∀ j u,(l.flatMap Od.vs)[j]? = some u→World.cell? (xm.alloc (N #[] 49)) (ad.add j) = some u):=rd_src (zh (U HR) ((U HB).2.2.2.2.2.trans ((U uP).mono (U HB).2.2.2.2.2.size)) hb)
  have kN:=Y HT
  clear HT hK
  go_wp2_with (at_builtin; go_must (refine wpList_append_own _ rfl _ _ 26 rfl xm.heap.size 49 i0 _ 6 56 Tryz.underlying26 uE uF uK uV rfl (by decide) (.slice (some (yp xm 0)) 0 0) 0 [] rfl (U vL) ad l.length A (l.flatMap Od.vs) rfl (by rw [zK Od.len]) (U vf) (bi l) (by unfold maxLen; omega) (by omega) (U uP).size ?_); intro v1 w1 vd qk _; have vl:=Y vd; have kw:=Y qk; clear vd qk)
  have pX:Hid (ORow w1 xm.heap.size v1 l):=by
   show w1.ownsRow _ _ _ _ l.length _
   simpa using U vl
  obtain ⟨a6,c6,hv⟩:=zL (U pX)
  subst hv
  exact U kN _ _ _ (U pX) ((U uP).grown (U kw) (U uP).size (fun k hk=>((U vL).lt k hk).1))
end Go.Proofs.YtbakanofkghmiaaGreat
