/-
  A command done on a book, by the model: proved by walking the function.
-/
import Derived.Test.YtbakanofkghmiaaGreatTj42
set_option linter.unusedVariables false
set_option maxHeartbeats 6400000
set_option maxRecDepth 100000
namespace Go.Proofs.YtbakanofkghmiaaGreat
open Go.RowKit
theorem l04Step_y (next:Int) (vb:Value) (l:List Od) (c:Cm) (w:World) (qO:refR next l c = 0∧c.k = 4) (hr:RdR Od.vs 6 w vb l) (hs:SlOk vb) (hg:GoodL l) (uD:∀ x ∈ l,x.side = 1 ∨ x.side = 2) (h0:0 ≤ next) (Q:next ≤ 1000000) (ht:c.g.size ≤ maxLen) :
  Calls Tryz.prog 44 #[.agg #[H next,vb],cmV c] w fun e w'=>∃ vq vg,e = yl (.tuple #[.agg #[H (stN next l c),vq],vg])∧ORow w' w.heap.size vq (stL next l c)∧ERow w' w.heap.size vg (stE next l c)∧ym w w':=by
 obtain ⟨i0,uz,uA,uF,uR⟩:=info_parts Tryz.infoOrder
 obtain ⟨j0,jn,jz,kJ,hy2⟩:=info_parts infoEv
 have HR:=Y hr
 have vH:=Y hs
 have HG:=Y hg
 have qF:=Y ht
 have vF:=hg.len
 have uB:Hid (0 ≤ next∧next ≤ 1000000):=⟨h0,Q⟩
 have uK:=Y (fun (W:World) hW=>cD next vb l c W hW hs hg uD ht)
 rw [ref_eq] at uK
 have HK:=Y (@bN next l c)
 have HQ:=Y (@bC next l c)
 have qA:=Y (@ref_id next l c)
 have jt:=Y (@ref_newS next l c)
 have ux:=Y qO
 clear qO
 have uZ:Hid (stN next l c = if refR next l c = 0∧c.k = 1 then next + 1 else next):=rfl
 have uy:=Y (stL.eq_1 next l c)
 have uY:=Y (stE.eq_1 next l c)
 have kW:=Y (fun W=>cC c W ht)
 have qE:=Y (fun (a:Option Addr) (n E:Nat) (W:World)=>bW next a n E c W)
 have jR:=Y (fun (v:Value) (W:World) hr hs hp jf qW=>bV v l c next W hr hg hs hp jf qW)
 obtain ⟨a,E,rfl,vA,hc⟩:=hr
 obtain ⟨kk,s,ty,li,O,ii,pr,K⟩:=c
 generalize stN next l ⟨kk,s,ty,li,O,ii,pr,K⟩ = sN at uZ ⊢
 generalize stL next l ⟨kk,s,ty,li,O,ii,pr,K⟩ = sL at uy ⊢
 generalize stE next l ⟨kk,s,ty,li,O,ii,pr,K⟩ = sE at uY ⊢
 generalize refR next l ⟨kk,s,ty,li,O,ii,pr,K⟩ = rr at uK uZ uy uY HK HQ qA jt ux
 unfold cmV at uK qE ⊢
 simp only at uK uZ uy uY HK HQ qA jt kW qE jR qF ux ⊢
 have HB:=Y (box3 w [H next,.slice a l.length E] (yv kk s ty li O ii pr K) [H 0,.slice none 0 0] 28 43 28)
 clear hs hg uD h0 Q ht hc vA
 go_enter Tryz.func44,Tryz.ntmps44
 refine ds fun tg xq=>?_
 go_wp2_with fail
 refine U xq _ _ ?_
 clear xq
 change Hid ((((w.alloc (D #[H next,.slice a l.length E] 28)).alloc (D (yv kk s ty li O ii pr K).toArray 43)).alloc (D #[H 0,.slice none 0 0] 28)).heap.size = w.heap.size + 3∧World.rangeAt (((w.alloc (D #[H next,.slice a l.length E] 28)).alloc (D (yv kk s ty li O ii pr K).toArray 43)).alloc (D #[H 0,.slice none 0 0] 28)) w.heap.size 0 [H next,.slice a l.length E]∧World.rangeAt (((w.alloc (D #[H next,.slice a l.length E] 28)).alloc (D (yv kk s ty li O ii pr K).toArray 43)).alloc (D #[H 0,.slice none 0 0] 28)) (w.heap.size + 1) 0 (yv kk s ty li O ii pr K)∧World.rangeAt (((w.alloc (D #[H next,.slice a l.length E] 28)).alloc (D (yv kk s ty li O ii pr K).toArray 43)).alloc (D #[H 0,.slice none 0 0] 28)) (w.heap.size + 1 + 1) 0 [H 0,.slice none 0 0]∧World.there (((w.alloc (D #[H next,.slice a l.length E] 28)).alloc (D (yv kk s ty li O ii pr K).toArray 43)).alloc (D #[H 0,.slice none 0 0] 28)) (w.heap.size + 1 + 1) 0 2∧ym w (((w.alloc (D #[H next,.slice a l.length E] 28)).alloc (D (yv kk s ty li O ii pr K).toArray 43)).alloc (D #[H 0,.slice none 0 0] 28))) at HB
 generalize (((w.alloc (D #[H next,.slice a l.length E] 28)).alloc (D (yv kk s ty li O ii pr K).toArray 43)).alloc (D #[H 0,.slice none 0 0] 28)) = hD at HB ⊢
 have xI:Hid (∀ W:World,ym hD W→W.cell? (yp w 0) = some (H next)∧W.cell? (yp w 1) = some (.slice a l.length E)∧W.cell? (J (w.heap.size + 1) 0) = some (H kk)∧W.cell? (J (w.heap.size + 1) 1) = some (H s)∧W.cell? (J (w.heap.size + 1) 2) = some (H ty)∧W.cell? (J (w.heap.size + 1) 3) = some (H li)∧W.cell? (J (w.heap.size + 1) 4) = some (H O)∧W.cell? (J (w.heap.size + 1) 5) = some (H ii)∧W.cell? (J (w.heap.size + 1) 6) = some (yi pr)∧W.cell? (J (w.heap.size + 1) 7) = some (yj K)):=fun W hW =>
  have p:=zb (U HB).2.1 hW (by have:=(U HB).1; omega)
  have q:=zb (U HB).2.2.1 hW (by have:=(U HB).1; omega)
  ⟨p 0 _ rfl,p 1 _ rfl,q 0 _ rfl,q 1 _ rfl,q 2 _ rfl,q 3 _ rfl,q 4 _ rfl,q 5 _ rfl,q 6 _ rfl,q 7 _ rfl⟩
 have vK:w.heap.size + 1 + 1 < hD.heap.size:=by have:=(U HB).1; omega
 refine wp_seq_k fun tg hK=>?_
 have HT:∀ (a6:Option Addr) (c6:Nat) (w1:World),ORow w1 hD.heap.size (.slice a6 l.length c6) l→ym hD w1→tg { tmps:=#[.agg #[H next,.slice a l.length E],.agg (yv kk s ty li O ii pr K).toArray,yn w 0,I (w.heap.size + 1) 0,I (w.heap.size + 1 + 1) 0,.slice none 0 0,.slice a6 l.length c6,M,M,M,M,M,M,M,M,M,M,M,.slice (some (yp hD 0)) 0 0,yn w 1,.slice a l.length E,.slice a6 l.length c6,M,M,M,M,M,M,M,M,M,M,M,M,M,M,M,M,M,M,M,M,M,M,M,M,M,M,M,M,M,M,M,M,M,M,M,M,M,M,M,M,M,M,M,M,M,M,M,M,M,M,M,M,M,M,M,M,M,M,M,M,M,M,M,M,M,M,M,M,M,M,M,M,M,M,M,M,M,M,M,M,M,M,M,M,M,M,M,M,M,M,M,M,M,M,M,M,M,M,M,M,M,M,M,M,M,M,M,M,M,M,M,M,M,M,M,M,M,M,M,M,M,M,M,M,M,M,M,M,M,M,M,M,M,M,M,M,M,M,M,M,M,M,M,M,M,M,M,M,M],defers:=[] } w1:=by
  intro a6 c6 w1 vR xS
  refine hK _ _ ?_
  clear hK
  have vh:=Y vR
  have xT:=Y xS
  clear vR xS
  obtain ⟨z0,z1,y0,y1,y2,y3,y4,y5,y6,y7⟩:=U xI w1 (U xT)
  refine ds fun tg xq=>?_
  go_wp2_with fail
  refine (U uK w1 (zl (U HR) ((U HB).2.2.2.2.2.trans ((U xT).mono (U HB).2.2.2.2.2.size)) qt)).mono ?_
  rintro e w2 ⟨rfl,xU⟩
  have vL:=Y (zk (U vh) xU)
  have xC:=Y (dq (U xT) xU)
  clear z0 z1 y0 y1 y2 y3 y4 y5 y6 y7 xU vh
  obtain ⟨z0,z1,y0,y1,y2,y3,y4,y5,y6,y7⟩:=U xI w2 (U xC)
  have vN:=Y (ze (U HB).2.2.2.2.1 (U xC) vK)
  have oa:w.heap.size + 1 + 1 < w2.heap.size:=yH vK (U xC).size
  have xJ:=Y ((U HB).2.2.2.2.2.trans ((U xC).mono (U HB).2.2.2.2.2.size))
  have hXw:w.heap.size ≤ hD.heap.size:=by omega
  have hX2:hD.heap.size ≤ w2.heap.size:=(U xC).size
  have kP:=hX2
  by_cases uX:rr = 0
  ·subst uX
   have pl:=U HK rfl
   rcases pl with rfl | rfl | rfl | rfl
   ·exact absurd (U ux).2 (by decide)
   ·exact absurd (U ux).2 (by decide)
   ·exact absurd (U ux).2 (by decide)
   ·have uE:Hid (sN = next∧sL = l.filter ndy∧sE = ⟨8,zCm,0,0,((l.filter dyB).length:Nat),0,0⟩ :: (l.filter dyB).map expE):=⟨by rw [U uZ,if_neg (fun h=>by have:=h.2; omega)],by rw [U uy,if_pos rfl,if_neg (by omega),if_neg (by omega),if_neg (by omega)],by rw [U uY,if_pos rfl,if_neg (by omega),if_neg (by omega),if_neg (by omega)]⟩
    clear uZ uy uY HQ qA HK jt qE jR kW
    go_wp2_with fail
    refine U xq _ _ ?_
    clear xq
    go_wp2_with fail
    refine (bX _ l ii w2 (zK (U vL) (by omega))).mono ?_
    generalize plc l ii = pk
    rintro e w3 ⟨rfl,uC⟩
    have qD:=Y (zk (U vL) uC)
    have xW:=Y (dq (U xC) uC)
    clear uC z0 z1 y0 y1 y2 y3 y4 y5 y6 y7 vN xJ oa kP
    have vN:=Y (ze (U HB).2.2.2.2.1 (U xW) vK)
    have oa:w.heap.size + 1 + 1 < w3.heap.size:=yH vK (U xW).size
    have xJ:=Y ((U HB).2.2.2.2.2.trans ((U xW).mono (U HB).2.2.2.2.2.size))
    have kP:hD.heap.size ≤ w3.heap.size:=(U xW).size
    obtain ⟨z0,z1,y0,y1,y2,y3,y4,y5,y6,y7⟩:=U xI w3 (U xW)
    go_wp2_with fail
    refine (l04Days_any _ l w3 (zK (U qD) (by omega)) (by omega)).mono ?_
    rintro e w4 ⟨v4,rfl,hI4,xz⟩
    obtain ⟨ad,cd,hv4⟩:=zQ hI4
    subst hv4
    have hnd0:(dys l).length = (l.filter dyB).length:=dysF_len l 0
    clear hI4
    generalize (dys l).length = nd at hnd0 ⊢
    have HND:=Y hnd0
    have hnd20:nd ≤ 20:=by rw [hnd0]; exact yL (List.length_filter_le _ _) vF
    clear hnd0
    have kM:=Y (zk (U qD) xz)
    have uk:=Y (dq (U xW) xz)
    clear xz z0 z1 y0 y1 y2 y3 y4 y5 y6 y7
    have hsE:=zf w4 (D (yt 8 0 0 0 0 0 0 0 ⟨#[]⟩ 0 0 nd 0 0).toArray 46)
    have hbE:ym w4 ((w4.alloc (D (yt 8 0 0 0 0 0 0 0 ⟨#[]⟩ 0 0 nd 0 0).toArray 46)).alloc (D #[] 49)):=(dm _ _).alloc (by rw [hsE]; omega) _
    have vU:Hid (ERow ((w4.alloc (D (yt 8 0 0 0 0 0 0 0 ⟨#[]⟩ 0 0 nd 0 0).toArray 46)).alloc (D #[] 49)) w4.heap.size (.slice (some (yp w4 0)) 1 1) [⟨8,zCm,0,0,(nd:Int),0,0⟩]):=(eRow_one w4 ⟨8,zCm,0,0,(nd:Int),0,0⟩ qt).alloc _
    have HL5:Hid (ORow ((w4.alloc (D (yt 8 0 0 0 0 0 0 0 ⟨#[]⟩ 0 0 nd 0 0).toArray 46)).alloc (D #[] 49)) w4.heap.size (.slice (some (J (w4.heap.size + 1) 0)) 0 0) []):=by have:=World.ownsRow_made (base:=w4.heap.size) (e:=49) (size:=6) (w4.alloc (D (yt 8 0 0 0 0 0 0 0 ⟨#[]⟩ 0 0 nd 0 0).toArray 46)) #[] 0 (by rw [hsE]; omega) (by decide) rfl; rw [hsE] at this; exact this
    have oS:=Y (zk (U kM) hbE)
    have kf:=Y (dq (U uk) hbE)
    have h45:w4.heap.size ≤ ((w4.alloc (D (yt 8 0 0 0 0 0 0 0 ⟨#[]⟩ 0 0 nd 0 0).toArray 46)).alloc (D #[] 49)).heap.size:=hbE.size
    have hX4:hD.heap.size ≤ w4.heap.size:=(U uk).size
    have hO4lt:Hid (∀ g,(Value.slice a6 l.length c6).ownBlock = some g→g < w4.heap.size):=fun g hg=>((U kM).lt g hg).2
    clear hsE hbE
    have hsf:=sfl
    go_wp2_with fail
    generalize ((w4.alloc (D (yt 8 0 0 0 0 0 0 0 ⟨#[]⟩ 0 0 nd 0 0).toArray 46)).alloc (D #[] 49)) = W5 at vU HL5 oS kf h45 ⊢
    go_loopw [11,12,13] (fun evv lfv iv wr=>∃ (k:Nat),k ≤ l.length∧iv = H k∧Hid (ERow wr w4.heap.size evv (⟨8,zCm,0,0,(nd:Int),0,0⟩ :: ((l.take k).filter dyB).map expE)∧ORow wr w4.heap.size lfv ((l.take k).filter ndy)∧ORow wr hD.heap.size (.slice a6 l.length c6) l∧ym hD wr∧w4.heap.size ≤ wr.heap.size)) (fun _ _ iv _=>l.length - (intOf iv).toNat)
    case atStart=>exact ⟨0,Nat.zero_le _,rfl,U vU,U HL5,U oS,U kf,h45⟩
    case round =>
     obtain ⟨k,hk,rfl,uq⟩:=hrel
     by_cases xH:k < l.length
     ·obtain ⟨o,hko⟩:∃ o,l[k]? = some o:=⟨_,yF xH⟩
      obtain ⟨a',c',e1,_,L⟩:=zK (U uq).2.2.1 (by omega)
      obtain ⟨b,off,e2,F,L⟩:=L (by rintro rfl; simp at hko)
      simp only [Value.slice.injEq] at e1
      obtain ⟨e1,-,-⟩:=e1
      rw [e2] at e1
      subst e1
      have HCL:=Y (L k o hko)
      obtain ⟨g0,g1,g2,g3,g4,g5⟩:=zC (L k o hko)
      have uu:(k:Int) < l.length:=by omega
      have hk0:(0:Int) ≤ k:=by omega
      have HKO:=Y hko
      clear L hko F e2
      by_cases hd:o.life = 1
      ·have hbd:(o.life == 1) = true:=by simpa using hd
       have qv:=Y (take_dy (U HKO) hd)
       have HNY:=Y (take_ny (U HKO) hd)
       clear hd
       go_wp2_with fail
       obtain ⟨hE,hL,hO,hB9,hs4⟩:=U uq
       have hlev:(⟨8,zCm,0,0,(nd:Int),0,0⟩ :: ((l.take k).filter dyB).map expE:List Ev).length ≤ 100:=by
        have Q:((l.take k).filter dyB).length ≤ 20:=yL (List.length_filter_le _ _) (yL (List.length_take_le _ _) (by omega))
        simp only [List.length_cons,List.length_map]; omega
       have hllf:((l.take k).filter ndy).length ≤ 20:=yL (List.length_filter_le _ _) (yL (List.length_take_le _ _) (by omega))
       have HNXE:Hid ((⟨8,zCm,0,0,(nd:Int),0,0⟩ :: ((l.take (k + 1)).filter dyB).map expE:List Ev) = (⟨8,zCm,0,0,(nd:Int),0,0⟩ :: ((l.take k).filter dyB).map expE) ++ [expE o]):=by show _ = _; rw [U qv,List.map_append]; rfl
       have kA:=U HNY
       generalize (⟨8,zCm,0,0,(nd:Int),0,0⟩ :: ((l.take k).filter dyB).map expE:List Ev) = evs at hE hlev HNXE
       generalize (l.take k).filter ndy = LF at hL hllf kA
       have kA:=Y kA
       have HE:=Y hE
       have HL:=Y hL
       have HO:=Y hO
       have ky:=Y hB9
       clear hE hL hO hB9 uq
       have HG0:=Y g0
       have vZ:=Y g3
       clear g0 g1 g2 g3 g4 g5
       refine zh (RYBA (fun f=>{ tmps:=#[.agg #[H next,.slice a l.length E],.agg (yv 4 s ty li O ii pr K).toArray,yn w 0,I (w.heap.size + 1) 0,I (w.heap.size + 1 + 1) 0,.slice none 0 0,.slice (some (J b off)) l.length c6,H 0,H pk,M,.slice ad nd cd,f 14,u12,H k,M,M,M,M,.slice (some (yp hD 0)) 0 0,yn w 1,.slice a l.length E,.slice (some (J b off)) l.length c6,.agg #[H next,.slice a l.length E],.agg (yv 4 s ty li O ii pr K).toArray,H 0,H 0,.bool false,M,M,M,M,M,M,M,M,M,.slice (some (J b off)) l.length c6,I (w.heap.size + 1) 5,H ii,H pk,I (w.heap.size + 1) 0,H 4,.bool false,.bool false,M,M,M,M,M,M,M,M,M,M,M,M,M,M,M,M,.bool false,.bool false,M,M,M,M,M,M,M,M,M,M,M,M,M,M,M,M,.bool true,.bool true,.slice (some (J b off)) l.length c6,.slice ad nd cd,.slice ad nd cd,H nd,.agg (yt 8 0 0 0 0 0 0 0 ⟨#[]⟩ 0 0 nd 0 0).toArray,.slice (some (yp w4 0)) 1 1,.slice (some (J (w4.heap.size + 1) 0)) 0 0,H k,.slice (some (J b off)) l.length c6,H l.length,.bool true,u91,u92,.slice (some (J b off)) l.length c6,H k,I b (off + k * 6),I b (off + k * 6 + 4),H o.life,.bool true,f 0,f 1,f 2,f 3,f 4,f 5,f 6,f 7,f 8,f 9,f 10,f 11,f 12,f 13,u113,u114,u115,u116,u117,u118,u119,M,M,M,M,M,M,M,M,M,M,M,M,M,M,M,M,M,M,M,M,M,M,M,M,M,M,M,M,M,M,M,M,M,M,M,M,M,M,M,M,M,M,M,M,M,M,M,M,M,M,M],defers:=[] }) (CX [u11,.slice (some (J b off)) l.length c6,H k,I b (off + k * 6),I b (off + k * 6),H o.id,.slice (some (J b off)) l.length c6,H k,I b (off + k * 6),I b (off + k * 6 + 3),H o.left,.agg (yt 9 0 0 0 0 0 0 0 ⟨#[]⟩ o.id 0 o.left 0 0).toArray,M,M,M] [(12,3)] (w4.heap.size) 0 [] ([expE o])) 13 (u11) (fun f W=>ERow W w4.heap.size (f 13) (evs ++ [expE o])∧ORow W w4.heap.size u12 LF∧ORow W hD.heap.size (.slice (some (J b off)) l.length c6) l∧ym hD W∧w4.heap.size ≤ W.heap.size) wr) (by kernel_rfl) ?_ ?_ ?_
       ·exact ⟨fun j=>([u99,u100,u101,u102,u103,u104,u105,u106,u107,u108,u109,u110,u111,u112,u11]:List Value)[j]?.getD M,rfl,ry_start (by decide),ryb_start rfl⟩
       rotate_left
       ·rintro x hR V i op ⟨f,rfl,A,hA⟩ L hx Z xu G
        have xw:=Y A
        have qu:=Y hA
        clear hA
        have xk:x[13]? = some false→∀ (p:Addr) u,wr.cell? p = some u→V.cell? p = some u:=fun hn p u hu=>((A.b hn).cell (yI wr _ hu)).trans hu
        match i,Z with
        | 0,Z =>
         obtain rfl:=ya Z
         have hn:x[13]? = some false:=zv L 12 0 13 (by kernel_rfl) hx (by simp) xu
         have jY:f 14 = u11:=(U qu).2 (zv L 12 0 14 (by kernel_rfl) hx (by simp) xu)
         clear G A L xk
         rw [if_pos (by rfl)];unfold Oper.wp;go_simp
         exact ⟨upd f 0 u11,by simp [upd,jY],zU (U xw) 0 _ hn (by decide) (zT rfl rfl),zV _ (U qu) (by decide) (by decide)⟩
        | 1,Z =>
         obtain rfl:=ya Z
         have hn:x[13]? = some false:=zv L 12 1 13 (by kernel_rfl) hx (by simp) xu
         clear G A L xk
         rw [if_pos (by rfl)];unfold Oper.wp;go_simp
         exact ⟨upd f 1 (.slice (some (J b off)) l.length c6),by simp [upd],zU (U xw) 1 _ hn (by decide) (zT rfl rfl),zV _ (U qu) (by decide) (by decide)⟩
        | 2,Z =>
         obtain rfl:=ya Z
         have hn:x[13]? = some false:=zv L 12 2 13 (by kernel_rfl) hx (by simp) xu
         clear G A L xk
         rw [if_pos (by rfl)];unfold Oper.wp;go_simp
         exact ⟨upd f 2 (H k),by simp [upd],zU (U xw) 2 _ hn (by decide) (zT rfl rfl),zV _ (U qu) (by decide) (by decide)⟩
        | 3,Z =>
         obtain rfl:=ya Z
         have hn:x[13]? = some false:=zv L 12 3 13 (by kernel_rfl) hx (by simp) xu
         have g1:f 1 = .slice (some (J b off)) l.length c6:=zP (A.c hn 1 (yd G 1 rfl)) rfl rfl
         have g2:f 2 = H k:=zP (A.c hn 2 (yd G 2 rfl)) rfl rfl
         clear G A L xk
         rw [if_pos (by rfl)];unfold Oper.wp;go_simp
         exact ⟨upd f 3 (I b (off + k * 6)),by simp [upd,g1,g2],zU (U xw) 3 _ hn (by decide) (zT rfl rfl),zV _ (U qu) (by decide) (by decide)⟩
        | 4,Z =>
         obtain rfl:=ya Z
         have hn:x[13]? = some false:=zv L 12 4 13 (by kernel_rfl) hx (by simp) xu
         have g3:f 3 = I b (off + k * 6):=zP (A.c hn 3 (yd G 3 rfl)) rfl rfl
         clear G A L xk
         rw [if_pos (by rfl)];unfold Oper.wp;go_simp
         exact ⟨upd f 4 (I b (off + k * 6)),by simp [upd,g3],zU (U xw) 4 _ hn (by decide) (zT rfl rfl),zV _ (U qu) (by decide) (by decide)⟩
        | 5,Z =>
         obtain rfl:=ya Z
         have hn:x[13]? = some false:=zv L 12 5 13 (by kernel_rfl) hx (by simp) xu
         have g4:f 4 = I b (off + k * 6):=zP (A.c hn 4 (yd G 4 rfl)) rfl rfl
         have q0:=xk hn (J b (off + k * 6)) _ (U HG0)
         clear G A L xk
         rw [if_pos (by rfl)];unfold Oper.wp;go_simp
         exact ⟨upd f 5 (H o.id),by simp [upd,g4],zU (U xw) 5 _ hn (by decide) (zT rfl rfl),zV _ (U qu) (by decide) (by decide)⟩
        | 6,Z =>
         obtain rfl:=ya Z
         have hn:x[13]? = some false:=zv L 12 6 13 (by kernel_rfl) hx (by simp) xu
         clear G A L xk
         rw [if_pos (by rfl)];unfold Oper.wp;go_simp
         exact ⟨upd f 6 (.slice (some (J b off)) l.length c6),by simp [upd],zU (U xw) 6 _ hn (by decide) (zT rfl rfl),zV _ (U qu) (by decide) (by decide)⟩
        | 7,Z =>
         obtain rfl:=ya Z
         have hn:x[13]? = some false:=zv L 12 7 13 (by kernel_rfl) hx (by simp) xu
         clear G A L xk
         rw [if_pos (by rfl)];unfold Oper.wp;go_simp
         exact ⟨upd f 7 (H k),by simp [upd],zU (U xw) 7 _ hn (by decide) (zT rfl rfl),zV _ (U qu) (by decide) (by decide)⟩
        | 8,Z =>
         obtain rfl:=ya Z
         have hn:x[13]? = some false:=zv L 12 8 13 (by kernel_rfl) hx (by simp) xu
         have g6:f 6 = .slice (some (J b off)) l.length c6:=zP (A.c hn 6 (yd G 6 rfl)) rfl rfl
         have g7:f 7 = H k:=zP (A.c hn 7 (yd G 7 rfl)) rfl rfl
         clear G A L xk
         rw [if_pos (by rfl)];unfold Oper.wp;go_simp
         exact ⟨upd f 8 (I b (off + k * 6)),by simp [upd,g6,g7],zU (U xw) 8 _ hn (by decide) (zT rfl rfl),zV _ (U qu) (by decide) (by decide)⟩
        | 9,Z =>
         obtain rfl:=ya Z
         have hn:x[13]? = some false:=zv L 12 9 13 (by kernel_rfl) hx (by simp) xu
         have g8:f 8 = I b (off + k * 6):=zP (A.c hn 8 (yd G 8 rfl)) rfl rfl
         clear G A L xk
         rw [if_pos (by rfl)];unfold Oper.wp;go_simp
         exact ⟨upd f 9 (I b (off + k * 6 + 3)),by simp [upd,g8],zU (U xw) 9 _ hn (by decide) (zT rfl rfl),zV _ (U qu) (by decide) (by decide)⟩
        | 10,Z =>
         obtain rfl:=ya Z
         have hn:x[13]? = some false:=zv L 12 10 13 (by kernel_rfl) hx (by simp) xu
         have g9:f 9 = I b (off + k * 6 + 3):=zP (A.c hn 9 (yd G 9 rfl)) rfl rfl
         have q3:=xk hn (J b (off + k * 6 + 3)) _ (U vZ)
         clear G A L xk
         rw [if_pos (by rfl)];unfold Oper.wp;go_simp
         exact ⟨upd f 10 (H o.left),by simp [upd,g9],zU (U xw) 10 _ hn (by decide) (zT rfl rfl),zV _ (U qu) (by decide) (by decide)⟩
        | 11,Z =>
         obtain rfl:=ya Z
         have hn:x[13]? = some false:=zv L 12 11 13 (by kernel_rfl) hx (by simp) xu
         have g5:f 5 = H o.id:=zP (A.c hn 5 (yd G 5 rfl)) rfl rfl
         have qG:f 10 = H o.left:=zP (A.c hn 10 (yd G 10 rfl)) rfl rfl
         clear G A L xk
         rw [if_pos (by rfl)];unfold Oper.wp;go_simp
         exact ⟨upd f 11 (.agg (yt 9 0 0 0 0 0 0 0 ⟨#[]⟩ o.id 0 o.left 0 0).toArray),by simp [upd,g5,qG],zU (U xw) 11 _ hn (by decide) (zT rfl rfl),zV _ (U qu) (by decide) (by decide)⟩
        | 12,Z =>
         obtain rfl:=ya Z
         have hn:x[13]? = some false:=zv L 12 12 13 (by kernel_rfl) hx (by simp) xu
         have vB:f 11 = .agg (yt 9 0 0 0 0 0 0 0 ⟨#[]⟩ o.id 0 o.left 0 0).toArray:=zP (A.c hn 11 (yd G 11 rfl)) rfl rfl
         have qN:=yL hs4 (A.b hn).size
         clear G A L xk
         rw [if_pos (by rfl)];unfold Oper.wp;go_simp
         exact ⟨upd f 12 (.slice (some (yp V 0)) 1 1),by simp [upd,vB],zU (ry_grow (cx_monoB (by omega)) (U xw) hn (dm _ _)) 12 _ hn (by decide) (aO (d:=3) rfl ⟨V.heap.size,rfl,by rw [zf]; omega,qN,zg V (expE o).vs _⟩),zV _ (U qu) (by decide) (by decide)⟩
        | 13,Z =>
         obtain rfl:=ya Z
         have hn:x[13]? = some false:=xu
         have g0:f 0 = u11:=zP (A.c hn 0 (yd G 0 rfl)) rfl rfl
         obtain ⟨qg,xX,jZ,_,hr12⟩:=cx_sp (d:=3) (A.c hn 12 (yd G 12 rfl)) rfl
         have ja:x[14]? = some false:=zv L 12 13 14 (by kernel_rfl) hx (by simp) xu
         have xR:=A.b hn
         have hEV:=zG (U HE) xR
         have hLV:=zk (U HL) xR
         have hOV:=zk (U HO) xR
         have hBV:=(U ky).trans (xR.mono (U ky).size)
         have hsV:=yL hs4 xR.size
         rw [if_pos (by rfl)]
         refine wp_append_own V (.tmp 99) (.tmp 111) 38 rfl w4.heap.size 46 j0 _ 14 120 Tryz.underlying38 jn jz kJ hy2 rfl (by decide) u11 evs.length (evs.flatMap Ev.vs) g0 hEV (J qg 0) 1 1 (expE o).vs xX rfl (fun j u hu=>by rw [Addr.add_mid]; exact hr12 j u hu) (one_ev (expE o)) (by unfold maxLen; omega) (by omega) hsV ?_
         intro v' w' xK uh _
         refine ⟨upd f 13 v',rfl,ry_write (U xw) hn v' ⟨?_,World.ownsRow.kept hLV uh (zA hLV hEV (by decide)),World.ownsRow.kept hOV uh (zA hOV hEV (by decide)),hBV.grown uh hBV.size (fun g hg=>yL hX4 (hEV.lt g hg).1),yL hsV uh.size⟩,ryb_write v' (U qu) ja⟩
         rw [show upd f 13 v' 13 = v' from zn _ _ _]
         show w'.ownsRow _ _ _ _ (evs ++ [expE o]).length _
         rw [yN,List.flatMap_append]
         simpa using xK
        | 14,Z =>
         obtain rfl:=ya Z
         have hn:x[13]? = some true:=G ⟨13,.data⟩ (by simp) rfl
         clear G A L xk
         rw [if_pos (by rfl)];unfold Oper.wp;go_simp
         exact ⟨upd f 14 (f 13),by simp [upd],ry_after (U xw) 14 _ hn (by decide) (fun h=>h),ryb_lay xu⟩
        | n + 15,Z=>simp at Z
       ·rintro x hR V ⟨f,rfl,A,hA⟩ hx xM
        have xn:=zO xM hx (by kernel_rfl)
        have e14:f 14 = f 13:=hA.1 (xn 14 (by simp))
        obtain ⟨q1,q2,q3,q4,q5⟩:=A.m (xn 13 (by simp))
        rw [← e14] at q1
        have oE:=Y q1
        have HQ2:=Y q2
        have HQ3:=Y q3
        have HQ4:=Y q4
        clear A hA xn xM hx q1 q2 q3 q4 e14
        dsimp only
        generalize f 0 = w0,f 1 = w1,f 2 = w2,f 3 = w3,f 4 = w4,f 5 = w5,f 6 = w6,f 7 = w7,f 8 = w8,f 9 = w9,f 10 = oN,f 11 = w11,f 12 = w12,f 13 = w13
        generalize f 14 = w14 at oE ⊢
        go_wp2_with fail
        dsimp only [H,I,J,M,yi,yj,yt,yu,yv,yn,yp,D]
        go_roundw
        case rel=>exact ⟨k + 1,by omega,by go_num,by rw [U HNXE]; exact U oE,by rw [U kA]; exact U HQ2,U HQ3,U HQ4,q5⟩
        case measure=>simp [intOf]; omega
      ·have hbd:(o.life == 1) = false:=by rw [xb]; exact hd
       have qv:=Y (take_no (U HKO) hd)
       have HNY:=Y (take_nd (U HKO) hd)
       clear hd
       obtain ⟨hE,hL,hO,hB9,hs4⟩:=U uq
       have hlev:(⟨8,zCm,0,0,(nd:Int),0,0⟩ :: ((l.take k).filter dyB).map expE:List Ev).length ≤ 100:=by
        have Q:((l.take k).filter dyB).length ≤ 20:=yL (List.length_filter_le _ _) (yL (List.length_take_le _ _) (by omega))
        simp only [List.length_cons,List.length_map]; omega
       have hllf:((l.take k).filter ndy).length ≤ 20:=yL (List.length_filter_le _ _) (yL (List.length_take_le _ _) (by omega))
       have HNXE:Hid ((⟨8,zCm,0,0,(nd:Int),0,0⟩ :: ((l.take (k + 1)).filter dyB).map expE:List Ev) = (⟨8,zCm,0,0,(nd:Int),0,0⟩ :: ((l.take k).filter dyB).map expE)):=by show _ = _; rw [U qv]
       have kA:=U HNY
       generalize (⟨8,zCm,0,0,(nd:Int),0,0⟩ :: ((l.take k).filter dyB).map expE:List Ev) = evs at hE hlev HNXE
       generalize (l.take k).filter ndy = LF at hL hllf kA
       have kA:=Y kA
       have HE:=Y hE
       have HL:=Y hL
       have HO:=Y hO
       have ky:=Y hB9
       clear hE hL hO hB9 uq
       have HLA:=Y ((U HL).alloc (D (yu o.id o.side o.ticks o.left o.life o.tag).toArray 49))
       have qB:Hid (ym wr (wr.alloc (D (yu o.id o.side o.ticks o.left o.life o.tag).toArray 49))):=dm _ _
       go_wp2_with (at_builtin; go_must (refine wpList_append_own _ rfl _ _ 26 rfl w4.heap.size 49 i0 _ 6 56 Tryz.underlying26 uz uA uF uR rfl (by decide) u12 LF.length (LF.flatMap Od.vs) rfl (U HLA) (yp wr 0) 1 1 o.vs rfl rfl (aY wr o.vs 49) (one_od o) (by unfold maxLen; omega) (by omega) (yL hs4 (U qB).size) ?_); intro v5 w5 vn pJ _; have oS:=Y vn; have jB:=Y pJ; clear vn pJ)
       have HN:Hid (ERow w5 w4.heap.size u11 evs∧ORow w5 w4.heap.size v5 (LF ++ [o])∧ORow w5 hD.heap.size (.slice (some (J b off)) l.length c6) l∧ym hD w5∧w4.heap.size ≤ w5.heap.size):=by
        have hEA:=zG (U HE) (U qB)
        have hOA:=zk (U HO) (U qB)
        have hBA:=(U ky).trans ((U qB).mono (U ky).size)
        refine ⟨World.ownsRow.kept hEA (U jB) (zA hEA (U HLA) (by decide)),?_,World.ownsRow.kept hOA (U jB) (.inr fun e=>?_),hBA.grown (U jB) hBA.size (fun g hg=>yL hX4 ((U HLA).lt g hg).1),yL hs4 (yL (U qB).size (U jB).size)⟩
        ·show w5.ownsRow _ _ _ _ (LF ++ [o]).length _
         rw [yN,List.flatMap_append]
         simpa using U oS
        ·have Q:=U hO4lt b rfl
         have N:=((U HLA).lt b e.symm).1
         omega
       clear oS jB
       go_wp2_with fail
       dsimp only [H,I,J,M,yi,yj,yt,yu,yv,yn,yp,D]
       go_roundw
       case rel=>exact ⟨k + 1,by omega,by go_num,by rw [U HNXE]; exact (U HN).1,by rw [U kA]; exact (U HN).2.1,(U HN).2.2.1,(U HN).2.2.2.1,(U HN).2.2.2.2⟩
       case measure=>simp [intOf]; omega
     ·obtain rfl:k = l.length:=by omega
      have uu:¬ (l.length:Int) < l.length:=by omega
      obtain ⟨hE,hL,hO,hB9,hs4⟩:=U uq
      rw [yX qt] at hE hL
      have HSL9:Hid (sL = l.filter ndy):=(U uE).2.1
      generalize l.filter ndy = LF at hL HSL9
      obtain ⟨al,cl,hv⟩:=zQ hL
      subst hv
      obtain ⟨z0,z1,y0,y1,y2,y3,y4,y5,y6,y7⟩:=U xI wr hB9
      have qa:=ze (U HB).2.2.2.2.1 hB9 vK
      obtain ⟨p0,x0,f0⟩:=zc qa (j:=0) (by omega)
      obtain ⟨p1,x1,f1⟩:=zc qa (j:=1) (by omega)
      have hBW:=(U HB).2.2.2.2.2.trans (hB9.mono (U HB).2.2.2.2.2.size)
      have HWF:Hid (ym w ((wr.setCell (J (w.heap.size + 1 + 1) 0) (H next)).setCell (J (w.heap.size + 1 + 1) 1) (.slice al LF.length cl))):=(hBW.setCell (p:=(J (w.heap.size + 1 + 1) 0)) (show w.heap.size ≤ w.heap.size + 1 + 1 by omega) _).setCell (p:=(J (w.heap.size + 1 + 1) 1)) (show w.heap.size ≤ w.heap.size + 1 + 1 by omega) _
      have hS4:w.heap.size + 1 + 1 < w4.heap.size:=by omega
      have HEF:Hid (ERow ((wr.setCell (J (w.heap.size + 1 + 1) 0) (H next)).setCell (J (w.heap.size + 1 + 1) 1) (.slice al LF.length cl)) w.heap.size u11 _):=zF (bz (bz hE hS4 0 _) hS4 1 _) (by omega)
      have HLF:Hid (ORow ((wr.setCell (J (w.heap.size + 1 + 1) 0) (H next)).setCell (J (w.heap.size + 1 + 1) 1) (.slice al LF.length cl)) w.heap.size (.slice al LF.length cl) LF):=zF (aJ (aJ hL hS4 0 _) hS4 1 _) (by omega)
      have d0:((wr.setCell (J (w.heap.size + 1 + 1) 0) (H next)).setCell (J (w.heap.size + 1 + 1) 1) (.slice al LF.length cl)).cell? (J (w.heap.size + 1 + 1) 0) = some (H next):=(yJ _ _ _ _ (zN (by decide))).trans (yK _ _ _ x0)
      have d1:((wr.setCell (J (w.heap.size + 1 + 1) 0) (H next)).setCell (J (w.heap.size + 1 + 1) 1) (.slice al LF.length cl)).cell? (J (w.heap.size + 1 + 1) 1) = some (.slice al LF.length cl):=yK _ _ _ ((yJ _ _ _ _ (zN (by decide))).trans x1)
      have kU:=Y d0
      have qP:=Y d1
      clear hE hL hO hB9 uq qa hBW d0 d1 y0 y1 y2 y3 y4 y5 y6 y7
      go_wp2_with fail
      have d0:=U kU
      have d1:=U qP
      try simp only [Exit.inBlock,Exit.then]
      refine bodyPost_ret (by simp [results,Tryz.results44,go_sem,d0,d1]; try rfl) rfl ?_
      obtain ⟨rfl,-,jP⟩:=U uE
      rw [← U HND] at jP
      have ke:=U HSL9
      subst ke jP
      exact ⟨_,_,rfl,U HLF,U HEF,U HWF⟩
  ·have kH:=uX
   have qz:(rr == 0) = false:=by rw [xb]; exact uX
   have uE:Hid (sN = next∧sL = l∧sE = [⟨2,⟨kk,s,ty,li,O,ii,pr,cutB K⟩,0,0,0,0,rr⟩]):=⟨by rw [U uZ,if_neg (fun h=>uX h.1)],by rw [U uy,if_neg uX],by rw [U uY,if_neg uX]⟩
   skip
   exact absurd (U ux).1 kH
 rcases U vH with hs | ⟨ad,nn,cc,hs⟩
 ·simp only [Value.slice.injEq] at hs
  obtain ⟨rfl,oo,rfl⟩:=hs
  obtain rfl:=List.length_eq_zero_iff.1 oo
  obtain ⟨z0,z1,y0,y1,y2,y3,y4,y5,y6,y7⟩:=U xI hD (Below.refl _ _)
  have vC:=Y (World.ownsRow_made (base:=hD.heap.size) (e:=49) (size:=6) hD #[] 0 qt (by decide) rfl)
  have hzX:World.cell? (hD.alloc (D #[] 49)) (yp w 1) = some (.slice none 0 0):=(U xI _ (dm _ _)).2.1
  have kB:=Y HT
  clear HT hK
  go_wp2_with (at_builtin; go_must (refine wpList_append_own_none rfl _ _ 26 rfl hD.heap.size 49 i0 6 Tryz.underlying26 uz (.slice (some (yp hD 0)) 0 0) 0 [] rfl (U vC) rfl ?_))
  exact U kB _ _ _ (U vC) (dm _ _)
 ·simp only [Value.slice.injEq] at hs
  obtain ⟨rfl,rfl,rfl⟩:=hs
  obtain ⟨z0,z1,y0,y1,y2,y3,y4,y5,y6,y7⟩:=U xI hD (Below.refl _ _)
  have uJ:Hid (ym hD (hD.alloc (D #[] 49))):=dm _ _
  have vC:=Y (World.ownsRow_made (base:=hD.heap.size) (e:=49) (size:=6) hD #[] 0 qt (by decide) rfl)
  have hzX:World.cell? (hD.alloc (D #[] 49)) (yp w 1) = some (.slice (some ad) l.length E):=(U xI _ (U uJ)).2.1
  have uU:Hid (∀ j u,(l.flatMap Od.vs)[j]? = some u→World.cell? (hD.alloc (D #[] 49)) (ad.add j) = some u):=rd_src (zl (U HR) ((U HB).2.2.2.2.2.trans ((U uJ).mono (U HB).2.2.2.2.2.size)) qt)
  have kB:=Y HT
  clear HT hK
  go_wp2_with (at_builtin; go_must (refine wpList_append_own _ rfl _ _ 26 rfl hD.heap.size 49 i0 _ 6 56 Tryz.underlying26 uz uA uF uR rfl (by decide) (.slice (some (yp hD 0)) 0 0) 0 [] rfl (U vC) ad l.length E (l.flatMap Od.vs) rfl (by rw [zH Od.len]) (U uU) (aA l) (by unfold maxLen; omega) (by omega) (U uJ).size ?_); intro v1 w1 uT qd _; have vh:=Y uT; have kh:=Y qd; clear uT qd)
  have pD:Hid (ORow w1 hD.heap.size v1 l):=by
   show w1.ownsRow _ _ _ _ l.length _
   simpa using U vh
  obtain ⟨a6,c6,hv⟩:=zQ (U pD)
  subst hv
  exact U kB _ _ _ (U pD) ((U uJ).grown (U kh) (U uJ).size (fun k hk=>((U vC).lt k hk).1))
end Go.Proofs.YtbakanofkghmiaaGreat
