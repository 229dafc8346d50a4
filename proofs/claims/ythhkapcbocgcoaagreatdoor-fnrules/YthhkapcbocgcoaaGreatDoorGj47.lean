/-
  A command done on a book, by the model: proved by walking the function.
-/
import Derived.Test.YthhkapcbocgcoaaGreatDoorGj45
set_option linter.unusedVariables false
set_option maxHeartbeats 6400000
set_option maxRecDepth 100000
namespace Go.Proofs.YthhkapcbocgcoaaGreatDoor
open Go.RowKit
theorem l04Step_y (next:Int) (vb:Value) (l:List Od) (c:Cm) (w:World) (jh:refR next l c = 0∧c.k = 4) (hr:RdR Od.vs 6 w vb l) (hs:SlOk vb) (hg:GoodL l) (ui:∀ x ∈ l,x.side = 1 ∨ x.side = 2) (h0:0 ≤ next) (Q:next ≤ 1000000) (ht:c.g.size ≤ maxLen) :
  Calls Tryz.prog 16 #[.agg #[H next,vb],cmV c] w fun e w'=>∃ vq vg,e = ym (.tuple #[.agg #[H (stN next l c),vq],vg])∧ORow w' w.heap.size vq (stL next l c)∧ERow w' w.heap.size vg (stE next l c)∧yn w w':=by
 obtain ⟨i0,uJ,uD,uz,uM⟩:=info_parts Tryz.infoOrder
 obtain ⟨j0,jM,bh,hy1,hy2⟩:=info_parts infoEv
 have HR:=M hr
 have qn:=M hs
 have HG:=M hg
 have ky:=M ht
 have ju:=hg.len
 have uO:Hid (0 ≤ next∧next ≤ 1000000):=⟨h0,Q⟩
 have uL:=M (fun (W:World) hW=>fO next vb l c W hW hs hg ui ht)
 rw [ref_eq] at uL
 have HK:=M (@fK next l c)
 have HQ:=M (@fg next l c)
 have kK:=M (@ref_id next l c)
 have jR:=M (@ref_newS next l c)
 have uy:=M jh
 clear jh
 have vW:Hid (stN next l c = if refR next l c = 0∧c.k = 1 then next + 1 else next):=rfl
 have uA:=M (stL.eq_1 next l c)
 have vO:=M (stE.eq_1 next l c)
 have kZ:=M (fun W=>fN c W ht)
 have ja:=M (fun (a:Option Addr) (n cap:Nat) (W:World)=>fx next a n cap c W)
 have kw:=M (fun (v:Value) (W:World) hr hs hp jO jl=>fw v l c next W hr hg hs hp jO jl)
 obtain ⟨a,cap,rfl,jg,hc⟩:=hr
 obtain ⟨kk,s,ty,li,qt,ii,pr,tg⟩:=c
 generalize stN next l ⟨kk,s,ty,li,qt,ii,pr,tg⟩ = sN at vW ⊢
 generalize stL next l ⟨kk,s,ty,li,qt,ii,pr,tg⟩ = sL at uA ⊢
 generalize stE next l ⟨kk,s,ty,li,qt,ii,pr,tg⟩ = sE at vO ⊢
 generalize refR next l ⟨kk,s,ty,li,qt,ii,pr,tg⟩ = rr at uL vW uA vO HK HQ kK jR uy
 unfold cmV at uL ja ⊢
 simp only at uL vW uA vO HK HQ kK jR kZ ja kw ky uy ⊢
 have HB:=M (box3 w [H next,.slice a l.length cap] (yx kk s ty li qt ii pr tg) [H 0,.slice none 0 0] 27 33 27)
 clear hs hg ui h0 Q ht hc jg
 go_enter Tryz.func16,Tryz.ntmps16
 refine ic fun xh xK=>?_
 go_wp2_with fail
 refine U xK _ _ ?_
 clear xK
 change Hid ((((w.alloc (O #[H next,.slice a l.length cap] 27)).alloc (O (yx kk s ty li qt ii pr tg).toArray 33)).alloc (O #[H 0,.slice none 0 0] 27)).heap.size = w.heap.size + 3∧World.rangeAt (((w.alloc (O #[H next,.slice a l.length cap] 27)).alloc (O (yx kk s ty li qt ii pr tg).toArray 33)).alloc (O #[H 0,.slice none 0 0] 27)) w.heap.size 0 [H next,.slice a l.length cap]∧World.rangeAt (((w.alloc (O #[H next,.slice a l.length cap] 27)).alloc (O (yx kk s ty li qt ii pr tg).toArray 33)).alloc (O #[H 0,.slice none 0 0] 27)) (w.heap.size + 1) 0 (yx kk s ty li qt ii pr tg)∧World.rangeAt (((w.alloc (O #[H next,.slice a l.length cap] 27)).alloc (O (yx kk s ty li qt ii pr tg).toArray 33)).alloc (O #[H 0,.slice none 0 0] 27)) (w.heap.size + 1 + 1) 0 [H 0,.slice none 0 0]∧World.there (((w.alloc (O #[H next,.slice a l.length cap] 27)).alloc (O (yx kk s ty li qt ii pr tg).toArray 33)).alloc (O #[H 0,.slice none 0 0] 27)) (w.heap.size + 1 + 1) 0 2∧yn w (((w.alloc (O #[H next,.slice a l.length cap] 27)).alloc (O (yx kk s ty li qt ii pr tg).toArray 33)).alloc (O #[H 0,.slice none 0 0] 27))) at HB
 generalize (((w.alloc (O #[H next,.slice a l.length cap] 27)).alloc (O (yx kk s ty li qt ii pr tg).toArray 33)).alloc (O #[H 0,.slice none 0 0] 27)) = h3 at HB ⊢
 have xL:Hid (∀ W:World,yn h3 W→W.cell? (yq w 0) = some (H next)∧W.cell? (yq w 1) = some (.slice a l.length cap)∧W.cell? (J (w.heap.size + 1) 0) = some (H kk)∧W.cell? (J (w.heap.size + 1) 1) = some (H s)∧W.cell? (J (w.heap.size + 1) 2) = some (H ty)∧W.cell? (J (w.heap.size + 1) 3) = some (H li)∧W.cell? (J (w.heap.size + 1) 4) = some (H qt)∧W.cell? (J (w.heap.size + 1) 5) = some (H ii)∧W.cell? (J (w.heap.size + 1) 6) = some (yj pr)∧W.cell? (J (w.heap.size + 1) 7) = some (yk tg)):=fun W hW =>
  have p:=zc (U HB).2.1 hW (by have:=(U HB).1; omega)
  have q:=zc (U HB).2.2.1 hW (by have:=(U HB).1; omega)
  ⟨p 0 _ rfl,p 1 _ rfl,q 0 _ rfl,q 1 _ rfl,q 2 _ rfl,q 3 _ rfl,q 4 _ rfl,q 5 _ rfl,q 6 _ rfl,q 7 _ rfl⟩
 have vL:w.heap.size + 1 + 1 < h3.heap.size:=by have:=(U HB).1; omega
 refine wp_seq_k fun xh hK=>?_
 have HT:∀ (a6:Option Addr) (c6:Nat) (w1:World),ORow w1 h3.heap.size (.slice a6 l.length c6) l→yn h3 w1→xh { tmps:=#[.agg #[H next,.slice a l.length cap],.agg (yx kk s ty li qt ii pr tg).toArray,yp w 0,I (w.heap.size + 1) 0,I (w.heap.size + 1 + 1) 0,.slice none 0 0,.slice a6 l.length c6,Z,Z,Z,Z,Z,Z,Z,Z,Z,Z,Z,.slice (some (yq h3 0)) 0 0,yp w 1,.slice a l.length cap,.slice a6 l.length c6,Z,Z,Z,Z,Z,Z,Z,Z,Z,Z,Z,Z,Z,Z,Z,Z,Z,Z,Z,Z,Z,Z,Z,Z,Z,Z,Z,Z,Z,Z,Z,Z,Z,Z,Z,Z,Z,Z,Z,Z,Z,Z,Z,Z,Z,Z,Z,Z,Z,Z,Z,Z,Z,Z,Z,Z,Z,Z,Z,Z,Z,Z,Z,Z,Z,Z,Z,Z,Z,Z,Z,Z,Z,Z,Z,Z,Z,Z,Z,Z,Z,Z,Z,Z,Z,Z,Z,Z,Z,Z,Z,Z,Z,Z,Z,Z,Z,Z,Z,Z,Z,Z,Z,Z,Z,Z,Z,Z,Z,Z,Z,Z,Z,Z,Z,Z,Z,Z,Z,Z,Z,Z,Z,Z,Z,Z,Z,Z,Z,Z,Z,Z,Z,Z,Z,Z,Z,Z,Z,Z,Z,Z,Z,Z,Z,Z,Z,Z,Z],defers:=[] } w1:=by
  intro a6 c6 w1 qA ub
  refine hK _ _ ?_
  clear hK
  have vv:=M qA
  have xU:=M ub
  clear qA ub
  obtain ⟨z0,z1,y0,y1,y2,y3,y4,y5,y6,y7⟩:=U xL w1 (U xU)
  refine ic fun xh xK=>?_
  go_wp2_with fail
  refine (U uL w1 (zh (U HR) ((U HB).2.2.2.2.2.trans ((U xU).mono (U HB).2.2.2.2.2.size)) hU)).mono ?_
  rintro e w2 ⟨rfl,xP⟩
  have qy:=M (zp (U vv) xP)
  have xt:=M (ia (U xU) xP)
  clear z0 z1 y0 y1 y2 y3 y4 y5 y6 y7 xP vv
  obtain ⟨z0,z1,y0,y1,y2,y3,y4,y5,y6,y7⟩:=U xL w2 (U xt)
  have qd:=M (zk (U HB).2.2.2.2.1 (U xt) vL)
  have pm:w.heap.size + 1 + 1 < w2.heap.size:=yK vL (U xt).size
  have xI:=M ((U HB).2.2.2.2.2.trans ((U xt).mono (U HB).2.2.2.2.2.size))
  have hXw:w.heap.size ≤ h3.heap.size:=by omega
  have pK:h3.heap.size ≤ w2.heap.size:=(U xt).size
  have oP:=pK
  by_cases vE:rr = 0
  ·subst vE
   have hkk:=U HK rfl
   rcases hkk with rfl | rfl | rfl | rfl
   ·exact absurd (U uy).2 (by decide)
   ·exact absurd (U uy).2 (by decide)
   ·exact absurd (U uy).2 (by decide)
   ·have vH:Hid (sN = next∧sL = l.filter ndy∧sE = ⟨8,zCm,0,0,((l.filter dyB).length:Nat),0,0⟩ :: (l.filter dyB).map expE):=⟨by rw [U vW,if_neg (fun h=>by have:=h.2; omega)],by rw [U uA,if_pos rfl,if_neg (by omega),if_neg (by omega),if_neg (by omega)],by rw [U vO,if_pos rfl,if_neg (by omega),if_neg (by omega),if_neg (by omega)]⟩
    clear vW uA vO HQ kK HK jR ja kw kZ
    go_wp2_with fail
    refine U xK _ _ ?_
    clear xK
    go_wp2_with fail
    refine (fC _ l ii w2 (zV (U qy) (by omega))).mono ?_
    generalize plc l ii = pk
    rintro e w3 ⟨rfl,xQ⟩
    have qW:=M (zp (U qy) xQ)
    have xG:=M (ia (U xt) xQ)
    clear xQ z0 z1 y0 y1 y2 y3 y4 y5 y6 y7 qd xI pm oP
    have qd:=M (zk (U HB).2.2.2.2.1 (U xG) vL)
    have pm:w.heap.size + 1 + 1 < w3.heap.size:=yK vL (U xG).size
    have xI:=M ((U HB).2.2.2.2.2.trans ((U xG).mono (U HB).2.2.2.2.2.size))
    have oP:h3.heap.size ≤ w3.heap.size:=(U xG).size
    obtain ⟨z0,z1,y0,y1,y2,y3,y4,y5,y6,y7⟩:=U xL w3 (U xG)
    go_wp2_with fail
    refine (l04Days_any _ l w3 (zV (U qW) (by omega)) (by omega)).mono ?_
    rintro e w4 ⟨v4,rfl,hI4,xy⟩
    obtain ⟨ad,cd,hv4⟩:=cT hI4
    subst hv4
    have hnd0:(dys l).length = (l.filter dyB).length:=dysF_lenO l 0
    clear hI4
    generalize (dys l).length = nd at hnd0 ⊢
    have HND:=M hnd0
    have hnd20:nd ≤ 20:=by rw [hnd0]; exact yO (List.length_filter_le _ _) ju
    clear hnd0
    have oa:=M (zp (U qW) xy)
    have xO:=M (ia (U xG) xy)
    clear xy z0 z1 y0 y1 y2 y3 y4 y5 y6 y7
    have hsE:=zi w4 (O (yv 8 0 0 0 0 0 0 0 ⟨#[]⟩ 0 0 nd 0 0).toArray 37)
    have hbE:yn w4 ((w4.alloc (O (yv 8 0 0 0 0 0 0 0 ⟨#[]⟩ 0 0 nd 0 0).toArray 37)).alloc (O #[] 65)):=(gZ _ _).alloc (by rw [hsE]; omega) _
    have HE5:Hid (ERow ((w4.alloc (O (yv 8 0 0 0 0 0 0 0 ⟨#[]⟩ 0 0 nd 0 0).toArray 37)).alloc (O #[] 65)) w4.heap.size (.slice (some (yq w4 0)) 1 1) [⟨8,zCm,0,0,(nd:Int),0,0⟩]):=(eRow_one w4 ⟨8,zCm,0,0,(nd:Int),0,0⟩ hU).alloc _
    have HL5:Hid (ORow ((w4.alloc (O (yv 8 0 0 0 0 0 0 0 ⟨#[]⟩ 0 0 nd 0 0).toArray 37)).alloc (O #[] 65)) w4.heap.size (.slice (some (J (w4.heap.size + 1) 0)) 0 0) []):=by have:=World.ownsRow_made (base:=w4.heap.size) (e:=65) (size:=6) (w4.alloc (O (yv 8 0 0 0 0 0 0 0 ⟨#[]⟩ 0 0 nd 0 0).toArray 37)) #[] 0 (by rw [hsE]; omega) (by decide) rfl; rw [hsE] at this; exact this
    have ax:=M (zp (U oa) hbE)
    have uE:=M (ia (U xO) hbE)
    have h45:w4.heap.size ≤ ((w4.alloc (O (yv 8 0 0 0 0 0 0 0 ⟨#[]⟩ 0 0 nd 0 0).toArray 37)).alloc (O #[] 65)).heap.size:=hbE.size
    have hX4:h3.heap.size ≤ w4.heap.size:=(U xO).size
    have hO4lt:Hid (∀ g,(Value.slice a6 l.length c6).ownBlock = some g→g < w4.heap.size):=fun g hg=>((U oa).lt g hg).2
    clear hsE hbE
    have hsf:=sfl
    go_wp2_with fail
    generalize ((w4.alloc (O (yv 8 0 0 0 0 0 0 0 ⟨#[]⟩ 0 0 nd 0 0).toArray 37)).alloc (O #[] 65)) = W5 at HE5 HL5 ax uE h45 ⊢
    go_loopw [11,12,13] (fun evv lfv iv wr=>∃ (k:Nat),k ≤ l.length∧iv = H k∧Hid (ERow wr w4.heap.size evv (⟨8,zCm,0,0,(nd:Int),0,0⟩ :: ((l.take k).filter dyB).map expE)∧ORow wr w4.heap.size lfv ((l.take k).filter ndy)∧ORow wr h3.heap.size (.slice a6 l.length c6) l∧yn h3 wr∧w4.heap.size ≤ wr.heap.size)) (fun _ _ iv _=>l.length - (intOf iv).toNat)
    case atStart=>exact ⟨0,Nat.zero_le _,rfl,U HE5,U HL5,U ax,U uE,h45⟩
    case round =>
     obtain ⟨k,E,rfl,oh⟩:=hrel
     by_cases xM:k < l.length
     ·obtain ⟨o,hko⟩:∃ o,l[k]? = some o:=⟨_,yI xM⟩
      obtain ⟨a',c',e1,_,xo⟩:=zV (U oh).2.2.1 (by omega)
      obtain ⟨b,off,e2,A,xo⟩:=xo (by rintro rfl; simp at hko)
      simp only [Value.slice.injEq] at e1
      obtain ⟨e1,-,-⟩:=e1
      rw [e2] at e1
      subst e1
      have kH:=M (xo k o hko)
      obtain ⟨g0,g1,g2,g3,g4,g5⟩:=zC (xo k o hko)
      have vj:(k:Int) < l.length:=by omega
      have oG:(0:Int) ≤ k:=by omega
      have HKO:=M hko
      clear xo hko A e2
      by_cases hd:o.life = 1
      ·have hbd:(o.life == 1) = true:=by simpa using hd
       have oZ:=M (take_dy (U HKO) hd)
       have HNY:=M (take_ny (U HKO) hd)
       clear hd
       go_wp2_with fail
       obtain ⟨hE,hL,hO,hB9,ka⟩:=U oh
       have hlev:(⟨8,zCm,0,0,(nd:Int),0,0⟩ :: ((l.take k).filter dyB).map expE:List Ev).length ≤ 100:=by
        have Q:((l.take k).filter dyB).length ≤ 20:=yO (List.length_filter_le _ _) (yO (List.length_take_le _ _) (by omega))
        simp only [List.length_cons,List.length_map]; omega
       have hllf:((l.take k).filter ndy).length ≤ 20:=yO (List.length_filter_le _ _) (yO (List.length_take_le _ _) (by omega))
       have HNXE:Hid ((⟨8,zCm,0,0,(nd:Int),0,0⟩ :: ((l.take (k + 1)).filter dyB).map expE:List Ev) = (⟨8,zCm,0,0,(nd:Int),0,0⟩ :: ((l.take k).filter dyB).map expE) ++ [expE o]):=by show _ = _; rw [U oZ,List.map_append]; rfl
       have ot:=U HNY
       generalize (⟨8,zCm,0,0,(nd:Int),0,0⟩ :: ((l.take k).filter dyB).map expE:List Ev) = evs at hE hlev HNXE
       generalize (l.take k).filter ndy = LF at hL hllf ot
       have ot:=M ot
       have HE:=M hE
       have HL:=M hL
       have HO:=M hO
       have qI:=M hB9
       clear hE hL hO hB9 oh
       have HG0:=M g0
       have uS:=M g3
       clear g0 g1 g2 g3 g4 g5
       refine zn (RYBA (fun f=>{ tmps:=#[.agg #[H next,.slice a l.length cap],.agg (yx 4 s ty li qt ii pr tg).toArray,yp w 0,I (w.heap.size + 1) 0,I (w.heap.size + 1 + 1) 0,.slice none 0 0,.slice (some (J b off)) l.length c6,H 0,H pk,Z,.slice ad nd cd,f 14,u12,H k,Z,Z,Z,Z,.slice (some (yq h3 0)) 0 0,yp w 1,.slice a l.length cap,.slice (some (J b off)) l.length c6,.agg #[H next,.slice a l.length cap],.agg (yx 4 s ty li qt ii pr tg).toArray,H 0,H 0,.bool false,Z,Z,Z,Z,Z,Z,Z,Z,Z,.slice (some (J b off)) l.length c6,I (w.heap.size + 1) 5,H ii,H pk,I (w.heap.size + 1) 0,H 4,.bool false,.bool false,Z,Z,Z,Z,Z,Z,Z,Z,Z,Z,Z,Z,Z,Z,Z,Z,.bool false,.bool false,Z,Z,Z,Z,Z,Z,Z,Z,Z,Z,Z,Z,Z,Z,Z,Z,.bool true,.bool true,.slice (some (J b off)) l.length c6,.slice ad nd cd,.slice ad nd cd,H nd,.agg (yv 8 0 0 0 0 0 0 0 ⟨#[]⟩ 0 0 nd 0 0).toArray,.slice (some (yq w4 0)) 1 1,.slice (some (J (w4.heap.size + 1) 0)) 0 0,H k,.slice (some (J b off)) l.length c6,H l.length,.bool true,u91,u92,.slice (some (J b off)) l.length c6,H k,I b (off + k * 6),I b (off + k * 6 + 4),H o.life,.bool true,f 0,f 1,f 2,f 3,f 4,f 5,f 6,f 7,f 8,f 9,f 10,f 11,f 12,f 13,u113,u114,u115,u116,u117,u118,u119,Z,Z,Z,Z,Z,Z,Z,Z,Z,Z,Z,Z,Z,Z,Z,Z,Z,Z,Z,Z,Z,Z,Z,Z,Z,Z,Z,Z,Z,Z,Z,Z,Z,Z,Z,Z,Z,Z,Z,Z,Z,Z,Z,Z,Z,Z,Z,Z,Z,Z,Z],defers:=[] }) (CX [u11,.slice (some (J b off)) l.length c6,H k,I b (off + k * 6),I b (off + k * 6),H o.id,.slice (some (J b off)) l.length c6,H k,I b (off + k * 6),I b (off + k * 6 + 3),H o.left,.agg (yv 9 0 0 0 0 0 0 0 ⟨#[]⟩ o.id 0 o.left 0 0).toArray,Z,Z,Z] [(12,3)] (w4.heap.size) 0 [] ([expE o])) 13 (u11) (fun f W=>ERow W w4.heap.size (f 13) (evs ++ [expE o])∧ORow W w4.heap.size u12 LF∧ORow W h3.heap.size (.slice (some (J b off)) l.length c6) l∧yn h3 W∧w4.heap.size ≤ W.heap.size) wr) (by kernel_rfl) ?_ ?_ ?_
       ·exact ⟨fun j=>([u99,u100,u101,u102,u103,u104,u105,u106,u107,u108,u109,u110,u111,u112,u11]:List Value)[j]?.getD Z,rfl,ry_start (by decide),ryb_start rfl⟩
       rotate_left
       ·rintro x hb V i op ⟨f,rfl,F,hA⟩ xo hx Y xu K
        have xA:=M F
        have qN:=M hA
        clear hA
        have xj:x[13]? = some false→∀ (p:Addr) u,wr.cell? p = some u→V.cell? p = some u:=fun hn p u hu=>((F.b hn).cell (yL wr _ hu)).trans hu
        match i,Y with
        | 0,Y =>
         obtain rfl:=ya Y
         have hn:x[13]? = some false:=ch xo 12 0 13 (by kernel_rfl) hx (by simp) xu
         have kR:f 14 = u11:=(U qN).2 (ch xo 12 0 14 (by kernel_rfl) hx (by simp) xu)
         clear K F xo xj
         rw [if_pos (by rfl)];unfold Oper.wp;go_simp
         exact ⟨upd f 0 u11,by simp [upd,kR],cM (U xA) 0 _ hn (by decide) (zT rfl rfl),zZ _ (U qN) (by decide) (by decide)⟩
        | 1,Y =>
         obtain rfl:=ya Y
         have hn:x[13]? = some false:=ch xo 12 1 13 (by kernel_rfl) hx (by simp) xu
         clear K F xo xj
         rw [if_pos (by rfl)];unfold Oper.wp;go_simp
         exact ⟨upd f 1 (.slice (some (J b off)) l.length c6),by simp [upd],cM (U xA) 1 _ hn (by decide) (zT rfl rfl),zZ _ (U qN) (by decide) (by decide)⟩
        | 2,Y =>
         obtain rfl:=ya Y
         have hn:x[13]? = some false:=ch xo 12 2 13 (by kernel_rfl) hx (by simp) xu
         clear K F xo xj
         rw [if_pos (by rfl)];unfold Oper.wp;go_simp
         exact ⟨upd f 2 (H k),by simp [upd],cM (U xA) 2 _ hn (by decide) (zT rfl rfl),zZ _ (U qN) (by decide) (by decide)⟩
        | 3,Y =>
         obtain rfl:=ya Y
         have hn:x[13]? = some false:=ch xo 12 3 13 (by kernel_rfl) hx (by simp) xu
         have g1:f 1 = .slice (some (J b off)) l.length c6:=zP (F.c hn 1 (ye K 1 rfl)) rfl rfl
         have g2:f 2 = H k:=zP (F.c hn 2 (ye K 2 rfl)) rfl rfl
         clear K F xo xj
         rw [if_pos (by rfl)];unfold Oper.wp;go_simp
         exact ⟨upd f 3 (I b (off + k * 6)),by simp [upd,g1,g2],cM (U xA) 3 _ hn (by decide) (zT rfl rfl),zZ _ (U qN) (by decide) (by decide)⟩
        | 4,Y =>
         obtain rfl:=ya Y
         have hn:x[13]? = some false:=ch xo 12 4 13 (by kernel_rfl) hx (by simp) xu
         have g3:f 3 = I b (off + k * 6):=zP (F.c hn 3 (ye K 3 rfl)) rfl rfl
         clear K F xo xj
         rw [if_pos (by rfl)];unfold Oper.wp;go_simp
         exact ⟨upd f 4 (I b (off + k * 6)),by simp [upd,g3],cM (U xA) 4 _ hn (by decide) (zT rfl rfl),zZ _ (U qN) (by decide) (by decide)⟩
        | 5,Y =>
         obtain rfl:=ya Y
         have hn:x[13]? = some false:=ch xo 12 5 13 (by kernel_rfl) hx (by simp) xu
         have g4:f 4 = I b (off + k * 6):=zP (F.c hn 4 (ye K 4 rfl)) rfl rfl
         have q0:=xj hn (J b (off + k * 6)) _ (U HG0)
         clear K F xo xj
         rw [if_pos (by rfl)];unfold Oper.wp;go_simp
         exact ⟨upd f 5 (H o.id),by simp [upd,g4],cM (U xA) 5 _ hn (by decide) (zT rfl rfl),zZ _ (U qN) (by decide) (by decide)⟩
        | 6,Y =>
         obtain rfl:=ya Y
         have hn:x[13]? = some false:=ch xo 12 6 13 (by kernel_rfl) hx (by simp) xu
         clear K F xo xj
         rw [if_pos (by rfl)];unfold Oper.wp;go_simp
         exact ⟨upd f 6 (.slice (some (J b off)) l.length c6),by simp [upd],cM (U xA) 6 _ hn (by decide) (zT rfl rfl),zZ _ (U qN) (by decide) (by decide)⟩
        | 7,Y =>
         obtain rfl:=ya Y
         have hn:x[13]? = some false:=ch xo 12 7 13 (by kernel_rfl) hx (by simp) xu
         clear K F xo xj
         rw [if_pos (by rfl)];unfold Oper.wp;go_simp
         exact ⟨upd f 7 (H k),by simp [upd],cM (U xA) 7 _ hn (by decide) (zT rfl rfl),zZ _ (U qN) (by decide) (by decide)⟩
        | 8,Y =>
         obtain rfl:=ya Y
         have hn:x[13]? = some false:=ch xo 12 8 13 (by kernel_rfl) hx (by simp) xu
         have g6:f 6 = .slice (some (J b off)) l.length c6:=zP (F.c hn 6 (ye K 6 rfl)) rfl rfl
         have g7:f 7 = H k:=zP (F.c hn 7 (ye K 7 rfl)) rfl rfl
         clear K F xo xj
         rw [if_pos (by rfl)];unfold Oper.wp;go_simp
         exact ⟨upd f 8 (I b (off + k * 6)),by simp [upd,g6,g7],cM (U xA) 8 _ hn (by decide) (zT rfl rfl),zZ _ (U qN) (by decide) (by decide)⟩
        | 9,Y =>
         obtain rfl:=ya Y
         have hn:x[13]? = some false:=ch xo 12 9 13 (by kernel_rfl) hx (by simp) xu
         have g8:f 8 = I b (off + k * 6):=zP (F.c hn 8 (ye K 8 rfl)) rfl rfl
         clear K F xo xj
         rw [if_pos (by rfl)];unfold Oper.wp;go_simp
         exact ⟨upd f 9 (I b (off + k * 6 + 3)),by simp [upd,g8],cM (U xA) 9 _ hn (by decide) (zT rfl rfl),zZ _ (U qN) (by decide) (by decide)⟩
        | 10,Y =>
         obtain rfl:=ya Y
         have hn:x[13]? = some false:=ch xo 12 10 13 (by kernel_rfl) hx (by simp) xu
         have g9:f 9 = I b (off + k * 6 + 3):=zP (F.c hn 9 (ye K 9 rfl)) rfl rfl
         have q3:=xj hn (J b (off + k * 6 + 3)) _ (U uS)
         clear K F xo xj
         rw [if_pos (by rfl)];unfold Oper.wp;go_simp
         exact ⟨upd f 10 (H o.left),by simp [upd,g9],cM (U xA) 10 _ hn (by decide) (zT rfl rfl),zZ _ (U qN) (by decide) (by decide)⟩
        | 11,Y =>
         obtain rfl:=ya Y
         have hn:x[13]? = some false:=ch xo 12 11 13 (by kernel_rfl) hx (by simp) xu
         have g5:f 5 = H o.id:=zP (F.c hn 5 (ye K 5 rfl)) rfl rfl
         have qL:f 10 = H o.left:=zP (F.c hn 10 (ye K 10 rfl)) rfl rfl
         clear K F xo xj
         rw [if_pos (by rfl)];unfold Oper.wp;go_simp
         exact ⟨upd f 11 (.agg (yv 9 0 0 0 0 0 0 0 ⟨#[]⟩ o.id 0 o.left 0 0).toArray),by simp [upd,g5,qL],cM (U xA) 11 _ hn (by decide) (zT rfl rfl),zZ _ (U qN) (by decide) (by decide)⟩
        | 12,Y =>
         obtain rfl:=ya Y
         have hn:x[13]? = some false:=ch xo 12 12 13 (by kernel_rfl) hx (by simp) xu
         have ql:f 11 = .agg (yv 9 0 0 0 0 0 0 0 ⟨#[]⟩ o.id 0 o.left 0 0).toArray:=zP (F.c hn 11 (ye K 11 rfl)) rfl rfl
         have aZ:=yO ka (F.b hn).size
         clear K F xo xj
         rw [if_pos (by rfl)];unfold Oper.wp;go_simp
         exact ⟨upd f 12 (.slice (some (yq V 0)) 1 1),by simp [upd,ql],cM (ry_grow (cx_monoB (by omega)) (U xA) hn (gZ _ _)) 12 _ hn (by decide) (dM (d:=3) rfl ⟨V.heap.size,rfl,by rw [zi]; omega,aZ,zm V (expE o).vs _⟩),zZ _ (U qN) (by decide) (by decide)⟩
        | 13,Y =>
         obtain rfl:=ya Y
         have hn:x[13]? = some false:=xu
         have g0:f 0 = u11:=zP (F.c hn 0 (ye K 0 rfl)) rfl rfl
         obtain ⟨qi,ud,kS,_,hr12⟩:=cx_sp (d:=3) (F.c hn 12 (ye K 12 rfl)) rfl
         have oy:x[14]? = some false:=ch xo 12 13 14 (by kernel_rfl) hx (by simp) xu
         have vA:=F.b hn
         have hEV:=zN (U HE) vA
         have hLV:=zp (U HL) vA
         have hOV:=zp (U HO) vA
         have um:=(U qI).trans (vA.mono (U qI).size)
         have hsV:=yO ka vA.size
         rw [if_pos (by rfl)]
         refine wp_append_own V (.tmp 99) (.tmp 111) 28 rfl w4.heap.size 37 j0 _ 14 120 Tryz.underlying28 jM bh hy1 hy2 rfl (by decide) u11 evs.length (evs.flatMap Ev.vs) g0 hEV (J qi 0) 1 1 (expE o).vs ud rfl (fun j u hu=>by rw [Addr.add_mid]; exact hr12 j u hu) (one_ev (expE o)) (by unfold maxLen; omega) (by omega) hsV ?_
         intro v' w' xS uZ _
         refine ⟨upd f 13 v',rfl,ry_write (U xA) hn v' ⟨?_,World.ownsRow.kept hLV uZ (dY hLV hEV (by decide)),World.ownsRow.kept hOV uZ (dY hOV hEV (by decide)),um.grown uZ um.size (fun g hg=>yO hX4 (hEV.lt g hg).1),yO hsV uZ.size⟩,ryb_write v' (U qN) oy⟩
         rw [show upd f 13 v' 13 = v' from zt _ _ _]
         show w'.ownsRow _ _ _ _ (evs ++ [expE o]).length _
         rw [yQ,List.flatMap_append]
         simpa using xS
        | 14,Y =>
         obtain rfl:=ya Y
         have hn:x[13]? = some true:=K ⟨13,.data⟩ (by simp) rfl
         clear K F xo xj
         rw [if_pos (by rfl)];unfold Oper.wp;go_simp
         exact ⟨upd f 14 (f 13),by simp [upd],ry_after (U xA) 14 _ hn (by decide) (fun h=>h),ryb_lay xu⟩
        | n + 15,Y=>simp at Y
       ·rintro x hb V ⟨f,rfl,F,hA⟩ hx xN
        have xp:=zY xN hx (by kernel_rfl)
        have e14:f 14 = f 13:=hA.1 (xp 14 (by simp))
        obtain ⟨q1,q2,q3,q4,q5⟩:=F.m (xp 13 (by simp))
        rw [← e14] at q1
        have ou:=M q1
        have HQ2:=M q2
        have HQ3:=M q3
        have HQ4:=M q4
        clear F hA xp xN hx q1 q2 q3 q4 e14
        dsimp only
        generalize f 0 = w0,f 1 = w1,f 2 = w2,f 3 = w3,f 4 = w4,f 5 = w5,f 6 = w6,f 7 = w7,f 8 = w8,f 9 = w9,f 10 = w10,f 11 = w11,f 12 = w12,f 13 = w13
        generalize f 14 = w14 at ou ⊢
        go_wp2_with fail
        try dsimp only [H,I,J,Z,yj,yk,yv,yw,yx,yp,yq,O]
        go_roundw
        case rel=>exact ⟨k + 1,by omega,by go_num,by rw [U HNXE]; exact U ou,by rw [U ot]; exact U HQ2,U HQ3,U HQ4,q5⟩
        case measure=>simp [intOf]; omega
      ·have hbd:(o.life == 1) = false:=by rw [xe]; exact hd
       have oZ:=M (take_no (U HKO) hd)
       have HNY:=M (take_nd (U HKO) hd)
       clear hd
       obtain ⟨hE,hL,hO,hB9,ka⟩:=U oh
       have hlev:(⟨8,zCm,0,0,(nd:Int),0,0⟩ :: ((l.take k).filter dyB).map expE:List Ev).length ≤ 100:=by
        have Q:((l.take k).filter dyB).length ≤ 20:=yO (List.length_filter_le _ _) (yO (List.length_take_le _ _) (by omega))
        simp only [List.length_cons,List.length_map]; omega
       have hllf:((l.take k).filter ndy).length ≤ 20:=yO (List.length_filter_le _ _) (yO (List.length_take_le _ _) (by omega))
       have HNXE:Hid ((⟨8,zCm,0,0,(nd:Int),0,0⟩ :: ((l.take (k + 1)).filter dyB).map expE:List Ev) = (⟨8,zCm,0,0,(nd:Int),0,0⟩ :: ((l.take k).filter dyB).map expE)):=by show _ = _; rw [U oZ]
       have ot:=U HNY
       generalize (⟨8,zCm,0,0,(nd:Int),0,0⟩ :: ((l.take k).filter dyB).map expE:List Ev) = evs at hE hlev HNXE
       generalize (l.take k).filter ndy = LF at hL hllf ot
       have ot:=M ot
       have HE:=M hE
       have HL:=M hL
       have HO:=M hO
       have qI:=M hB9
       clear hE hL hO hB9 oh
       have HLA:=M ((U HL).alloc (O (yw o.id o.side o.ticks o.left o.life o.tag).toArray 65))
       have vG:Hid (yn wr (wr.alloc (O (yw o.id o.side o.ticks o.left o.life o.tag).toArray 65))):=gZ _ _
       go_wp2_with (at_builtin; go_must (refine wpList_append_own _ rfl _ _ 25 rfl w4.heap.size 65 i0 _ 6 56 Tryz.underlying25 uJ uD uz uM rfl (by decide) u12 LF.length (LF.flatMap Od.vs) rfl (U HLA) (yq wr 0) 1 1 o.vs rfl rfl (cellsQ wr o.vs 65) (one_od o) (by unfold maxLen; omega) (by omega) (yO ka (U vG).size) ?_); intro v5 w5 qB qw _; have ax:=M qB; have uu:=M qw; clear qB qw)
       have HN:Hid (ERow w5 w4.heap.size u11 evs∧ORow w5 w4.heap.size v5 (LF ++ [o])∧ORow w5 h3.heap.size (.slice (some (J b off)) l.length c6) l∧yn h3 w5∧w4.heap.size ≤ w5.heap.size):=by
        have hEA:=zN (U HE) (U vG)
        have hOA:=zp (U HO) (U vG)
        have hBA:=(U qI).trans ((U vG).mono (U qI).size)
        refine ⟨World.ownsRow.kept hEA (U uu) (dY hEA (U HLA) (by decide)),?_,World.ownsRow.kept hOA (U uu) (.inr fun e=>?_),hBA.grown (U uu) hBA.size (fun g hg=>yO hX4 ((U HLA).lt g hg).1),yO ka (yO (U vG).size (U uu).size)⟩
        ·show w5.ownsRow _ _ _ _ (LF ++ [o]).length _
         rw [yQ,List.flatMap_append]
         simpa using U ax
        ·have Q:=U hO4lt b rfl
         have D:=((U HLA).lt b e.symm).1
         omega
       clear ax uu
       go_wp2_with fail
       try dsimp only [H,I,J,Z,yj,yk,yv,yw,yx,yp,yq,O]
       go_roundw
       case rel=>exact ⟨k + 1,by omega,by go_num,by rw [U HNXE]; exact (U HN).1,by rw [U ot]; exact (U HN).2.1,(U HN).2.2.1,(U HN).2.2.2.1,(U HN).2.2.2.2⟩
       case measure=>simp [intOf]; omega
     ·obtain rfl:k = l.length:=by omega
      have vj:¬ (l.length:Int) < l.length:=by omega
      obtain ⟨hE,hL,hO,hB9,ka⟩:=U oh
      rw [xa hU] at hE hL
      have HSL9:Hid (sL = l.filter ndy):=(U vH).2.1
      generalize l.filter ndy = LF at hL HSL9
      obtain ⟨al,cl,hv⟩:=cT hL
      subst hv
      obtain ⟨z0,z1,y0,y1,y2,y3,y4,y5,y6,y7⟩:=U xL wr hB9
      have qz:=zk (U HB).2.2.2.2.1 hB9 vL
      obtain ⟨p0,x0,f0⟩:=zg qz (j:=0) (by omega)
      obtain ⟨p1,x1,f1⟩:=zg qz (j:=1) (by omega)
      have aN:=(U HB).2.2.2.2.2.trans (hB9.mono (U HB).2.2.2.2.2.size)
      have HWF:Hid (yn w ((wr.setCell (J (w.heap.size + 1 + 1) 0) (H next)).setCell (J (w.heap.size + 1 + 1) 1) (.slice al LF.length cl))):=(aN.setCell (p:=(J (w.heap.size + 1 + 1) 0)) (show w.heap.size ≤ w.heap.size + 1 + 1 by omega) _).setCell (p:=(J (w.heap.size + 1 + 1) 1)) (show w.heap.size ≤ w.heap.size + 1 + 1 by omega) _
      have hS4:w.heap.size + 1 + 1 < w4.heap.size:=by omega
      have HEF:Hid (ERow ((wr.setCell (J (w.heap.size + 1 + 1) 0) (H next)).setCell (J (w.heap.size + 1 + 1) 1) (.slice al LF.length cl)) w.heap.size u11 _):=zR (ed (ed hE hS4 0 _) hS4 1 _) (by omega)
      have HLF:Hid (ORow ((wr.setCell (J (w.heap.size + 1 + 1) 0) (H next)).setCell (J (w.heap.size + 1 + 1) 1) (.slice al LF.length cl)) w.heap.size (.slice al LF.length cl) LF):=zR (dw (dw hL hS4 0 _) hS4 1 _) (by omega)
      have d0:((wr.setCell (J (w.heap.size + 1 + 1) 0) (H next)).setCell (J (w.heap.size + 1 + 1) 1) (.slice al LF.length cl)).cell? (J (w.heap.size + 1 + 1) 0) = some (H next):=(yM _ _ _ _ (bZ (by decide))).trans (yN _ _ _ x0)
      have d1:((wr.setCell (J (w.heap.size + 1 + 1) 0) (H next)).setCell (J (w.heap.size + 1 + 1) 1) (.slice al LF.length cl)).cell? (J (w.heap.size + 1 + 1) 1) = some (.slice al LF.length cl):=yN _ _ _ ((yM _ _ _ _ (bZ (by decide))).trans x1)
      have kI:=M d0
      have qJ:=M d1
      clear hE hL hO hB9 oh qz aN d0 d1 y0 y1 y2 y3 y4 y5 y6 y7
      go_wp2_with fail
      have d0:=U kI
      have d1:=U qJ
      try simp only [Exit.inBlock,Exit.then]
      refine bodyPost_ret (by simp [results,Tryz.results16,go_sem,d0,d1]; try rfl) rfl ?_
      obtain ⟨rfl,-,kp⟩:=U vH
      rw [← U HND] at kp
      have kV:=U HSL9
      subst kV kp
      exact ⟨_,_,rfl,U HLF,U HEF,U HWF⟩
  ·have oJ:=vE
   have jP:(rr == 0) = false:=by rw [xe]; exact vE
   have vH:Hid (sN = next∧sL = l∧sE = [⟨2,⟨kk,s,ty,li,qt,ii,pr,cutB tg⟩,0,0,0,0,rr⟩]):=⟨by rw [U vW,if_neg (fun h=>vE h.1)],by rw [U uA,if_neg vE],by rw [U vO,if_neg vE]⟩
   skip
   exact absurd (U uy).1 oJ
 rcases U qn with hs | ⟨ad,nn,cc,hs⟩
 ·simp only [Value.slice.injEq] at hs
  obtain ⟨rfl,jk,rfl⟩:=hs
  obtain rfl:=List.length_eq_zero_iff.1 jk
  obtain ⟨z0,z1,y0,y1,y2,y3,y4,y5,y6,y7⟩:=U xL h3 (Below.refl _ _)
  have vY:=M (World.ownsRow_made (base:=h3.heap.size) (e:=65) (size:=6) h3 #[] 0 hU (by decide) rfl)
  have hzX:World.cell? (h3.alloc (O #[] 65)) (yq w 1) = some (.slice none 0 0):=(U xL _ (gZ _ _)).2.1
  have ow:=M HT
  clear HT hK
  go_wp2_with (at_builtin; go_must (refine wpList_append_own_none rfl _ _ 25 rfl h3.heap.size 65 i0 6 Tryz.underlying25 uJ (.slice (some (yq h3 0)) 0 0) 0 [] rfl (U vY) rfl ?_))
  exact U ow _ _ _ (U vY) (gZ _ _)
 ·simp only [Value.slice.injEq] at hs
  obtain ⟨rfl,rfl,rfl⟩:=hs
  obtain ⟨z0,z1,y0,y1,y2,y3,y4,y5,y6,y7⟩:=U xL h3 (Below.refl _ _)
  have uK:Hid (yn h3 (h3.alloc (O #[] 65))):=gZ _ _
  have vY:=M (World.ownsRow_made (base:=h3.heap.size) (e:=65) (size:=6) h3 #[] 0 hU (by decide) rfl)
  have hzX:World.cell? (h3.alloc (O #[] 65)) (yq w 1) = some (.slice (some ad) l.length cap):=(U xL _ (U uK)).2.1
  have vf:Hid (∀ j u,(l.flatMap Od.vs)[j]? = some u→World.cell? (h3.alloc (O #[] 65)) (ad.add j) = some u):=rd_src (zh (U HR) ((U HB).2.2.2.2.2.trans ((U uK).mono (U HB).2.2.2.2.2.size)) hU)
  have ow:=M HT
  clear HT hK
  go_wp2_with (at_builtin; go_must (refine wpList_append_own _ rfl _ _ 25 rfl h3.heap.size 65 i0 _ 6 56 Tryz.underlying25 uJ uD uz uM rfl (by decide) (.slice (some (yq h3 0)) 0 0) 0 [] rfl (U vY) ad l.length cap (l.flatMap Od.vs) rfl (by rw [zL Od.len]) (U vf) (dj l) (by unfold maxLen; omega) (by omega) (U uK).size ?_); intro v1 w1 uW je _; have vv:=M uW; have oN:=M je; clear uW je)
  have bz:Hid (ORow w1 h3.heap.size v1 l):=by
   show w1.ownsRow _ _ _ _ l.length _
   simpa using U vv
  obtain ⟨a6,c6,hv⟩:=cT (U bz)
  subst hv
  exact U ow _ _ _ (U bz) ((U uK).grown (U oN) (U uK).size (fun k E=>((U vY).lt k E).1))
end Go.Proofs.YthhkapcbocgcoaaGreatDoor
