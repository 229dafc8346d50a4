/-
  A command done on a book, by the model: proved by walking the function.
-/
import Derived.Test.YtbakanofkghmiaaGreatPj43
set_option linter.unusedVariables false
set_option maxHeartbeats 6400000
set_option maxRecDepth 100000
namespace Go.Proofs.YtbakanofkghmiaaGreat
open Go.RowKit
theorem l04Step_y (next:Int) (vb:Value) (l:List Od) (c:Cm) (w:World) (qP:refR next l c = 0∧c.k = 4) (hr:RdR Od.vs 6 w vb l) (hs:SlOk vb) (hg:GoodL l) (uu:∀ x ∈ l,x.side = 1 ∨ x.side = 2) (h0:0 ≤ next) (z:next ≤ 1000000) (ht:c.g.size ≤ maxLen) :
  Calls Tryz.prog 44 #[.agg #[H next,vb],cmV c] w fun e w'=>∃ vq vg,e = yk (.tuple #[.agg #[H (stN next l c),vq],vg])∧ORow w' w.heap.size vq (stL next l c)∧ERow w' w.heap.size vg (stE next l c)∧yl w w':=by
 obtain ⟨i0,uv,uq,uw,uM⟩:=info_parts Tryz.infoOrder
 obtain ⟨j0,jk,js,kM,hy2⟩:=info_parts infoEv
 have HR:=Q hr
 have uW:=Q hs
 have HG:=Q hg
 have qU:=Q ht
 have vG:=hg.len
 have ur:Hid (0 ≤ next∧next ≤ 1000000):=⟨h0,z⟩
 have uG:=Q (fun (W:World) hW=>dF next vb l c W hW hs hg uu ht)
 rw [ref_eq] at uG
 have HK:=Q (@de next l c)
 have HQ:=Q (@dx next l c)
 have qA:=Q (@ref_id next l c)
 have jm:=Q (@ref_newS next l c)
 have um:=Q qP
 clear qP
 have uB:Hid (stN next l c = if refR next l c = 0∧c.k = 1 then next + 1 else next):=rfl
 have uo:=Q (stL.eq_1 next l c)
 have uA:=Q (stE.eq_1 next l c)
 have oa:=Q (fun W=>dE c W ht)
 have qF:=Q (fun (a:Option Addr) (n F:Nat) (W:World)=>dn next a n F c W)
 have jJ:=Q (fun (v:Value) (W:World) hr hs hp je qy=>dm v l c next W hr hg hs hp je qy)
 obtain ⟨a,F,rfl,vy,hc⟩:=hr
 obtain ⟨kk,s,ty,li,X,ii,pr,O⟩:=c
 generalize stN next l ⟨kk,s,ty,li,X,ii,pr,O⟩ = sN at uB ⊢
 generalize stL next l ⟨kk,s,ty,li,X,ii,pr,O⟩ = sL at uo ⊢
 generalize stE next l ⟨kk,s,ty,li,X,ii,pr,O⟩ = sE at uA ⊢
 generalize refR next l ⟨kk,s,ty,li,X,ii,pr,O⟩ = rr at uG uB uo uA HK HQ qA jm um
 unfold cmV at uG qF ⊢
 simp only at uG uB uo uA HK HQ qA jm oa qF jJ qU um ⊢
 have HB:=Q (box3 w [H next,.slice a l.length F] (yu kk s ty li X ii pr O) [H 0,.slice none 0 0] 28 43 28)
 clear hs hg uu h0 z ht hc vy
 go_enter Tryz.func44,Tryz.ntmps44
 refine eH fun h2 xu=>?_
 go_wp2_with fail
 refine M xu _ _ ?_
 clear xu
 change Hid ((((w.alloc (E #[H next,.slice a l.length F] 28)).alloc (E (yu kk s ty li X ii pr O).toArray 43)).alloc (E #[H 0,.slice none 0 0] 28)).heap.size = w.heap.size + 3∧World.rangeAt (((w.alloc (E #[H next,.slice a l.length F] 28)).alloc (E (yu kk s ty li X ii pr O).toArray 43)).alloc (E #[H 0,.slice none 0 0] 28)) w.heap.size 0 [H next,.slice a l.length F]∧World.rangeAt (((w.alloc (E #[H next,.slice a l.length F] 28)).alloc (E (yu kk s ty li X ii pr O).toArray 43)).alloc (E #[H 0,.slice none 0 0] 28)) (w.heap.size + 1) 0 (yu kk s ty li X ii pr O)∧World.rangeAt (((w.alloc (E #[H next,.slice a l.length F] 28)).alloc (E (yu kk s ty li X ii pr O).toArray 43)).alloc (E #[H 0,.slice none 0 0] 28)) (w.heap.size + 1 + 1) 0 [H 0,.slice none 0 0]∧World.there (((w.alloc (E #[H next,.slice a l.length F] 28)).alloc (E (yu kk s ty li X ii pr O).toArray 43)).alloc (E #[H 0,.slice none 0 0] 28)) (w.heap.size + 1 + 1) 0 2∧yl w (((w.alloc (E #[H next,.slice a l.length F] 28)).alloc (E (yu kk s ty li X ii pr O).toArray 43)).alloc (E #[H 0,.slice none 0 0] 28))) at HB
 generalize (((w.alloc (E #[H next,.slice a l.length F] 28)).alloc (E (yu kk s ty li X ii pr O).toArray 43)).alloc (E #[H 0,.slice none 0 0] 28)) = qt at HB ⊢
 have xE:Hid (∀ W:World,yl qt W→W.cell? (yn w 0) = some (H next)∧W.cell? (yn w 1) = some (.slice a l.length F)∧W.cell? (J (w.heap.size + 1) 0) = some (H kk)∧W.cell? (J (w.heap.size + 1) 1) = some (H s)∧W.cell? (J (w.heap.size + 1) 2) = some (H ty)∧W.cell? (J (w.heap.size + 1) 3) = some (H li)∧W.cell? (J (w.heap.size + 1) 4) = some (H X)∧W.cell? (J (w.heap.size + 1) 5) = some (H ii)∧W.cell? (J (w.heap.size + 1) 6) = some (yh pr)∧W.cell? (J (w.heap.size + 1) 7) = some (yi O)):=fun W hW =>
  have p:=zb (M HB).2.1 hW (by have:=(M HB).1; omega)
  have q:=zb (M HB).2.2.1 hW (by have:=(M HB).1; omega)
  ⟨p 0 _ rfl,p 1 _ rfl,q 0 _ rfl,q 1 _ rfl,q 2 _ rfl,q 3 _ rfl,q 4 _ rfl,q 5 _ rfl,q 6 _ rfl,q 7 _ rfl⟩
 have uU:w.heap.size + 1 + 1 < qt.heap.size:=by have:=(M HB).1; omega
 refine wp_seq_k fun h2 hK=>?_
 have HT:∀ (a6:Option Addr) (c6:Nat) (w1:World),ORow w1 qt.heap.size (.slice a6 l.length c6) l→yl qt w1→h2 { tmps:=#[.agg #[H next,.slice a l.length F],.agg (yu kk s ty li X ii pr O).toArray,ym w 0,I (w.heap.size + 1) 0,I (w.heap.size + 1 + 1) 0,.slice none 0 0,.slice a6 l.length c6,Z,Z,Z,Z,Z,Z,Z,Z,Z,Z,Z,.slice (some (yn qt 0)) 0 0,ym w 1,.slice a l.length F,.slice a6 l.length c6,Z,Z,Z,Z,Z,Z,Z,Z,Z,Z,Z,Z,Z,Z,Z,Z,Z,Z,Z,Z,Z,Z,Z,Z,Z,Z,Z,Z,Z,Z,Z,Z,Z,Z,Z,Z,Z,Z,Z,Z,Z,Z,Z,Z,Z,Z,Z,Z,Z,Z,Z,Z,Z,Z,Z,Z,Z,Z,Z,Z,Z,Z,Z,Z,Z,Z,Z,Z,Z,Z,Z,Z,Z,Z,Z,Z,Z,Z,Z,Z,Z,Z,Z,Z,Z,Z,Z,Z,Z,Z,Z,Z,Z,Z,Z,Z,Z,Z,Z,Z,Z,Z,Z,Z,Z,Z,Z,Z,Z,Z,Z,Z,Z,Z,Z,Z,Z,Z,Z,Z,Z,Z,Z,Z,Z,Z,Z,Z,Z,Z,Z,Z,Z,Z,Z,Z,Z,Z,Z,Z,Z,Z,Z,Z,Z,Z,Z,Z,Z],defers:=[] } w1:=by
  intro a6 c6 w1 vV xR
  refine hK _ _ ?_
  clear hK
  have uZ:=Q vV
  have xT:=Q xR
  clear vV xR
  obtain ⟨z0,z1,y0,y1,y2,y3,y4,y5,y6,y7⟩:=M xE w1 (M xT)
  refine eH fun h2 xu=>?_
  go_wp2_with fail
  refine (M uG w1 (zh (M HR) ((M HB).2.2.2.2.2.trans ((M xT).mono (M HB).2.2.2.2.2.size)) tg)).mono ?_
  rintro e w2 ⟨rfl,ue⟩
  have vO:=Q (zj (M uZ) ue)
  have xC:=Q (eG (M xT) ue)
  clear z0 z1 y0 y1 y2 y3 y4 y5 y6 y7 ue uZ
  obtain ⟨z0,z1,y0,y1,y2,y3,y4,y5,y6,y7⟩:=M xE w2 (M xC)
  have vw:=Q (zf (M HB).2.2.2.2.1 (M xC) uU)
  have oh:w.heap.size + 1 + 1 < w2.heap.size:=yG uU (M xC).size
  have xJ:=Q ((M HB).2.2.2.2.2.trans ((M xC).mono (M HB).2.2.2.2.2.size))
  have hXw:w.heap.size ≤ qt.heap.size:=by omega
  have hX2:qt.heap.size ≤ w2.heap.size:=(M xC).size
  have kS:=hX2
  by_cases uR:rr = 0
  ·subst uR
   have pA:=M HK rfl
   rcases pA with rfl | rfl | rfl | rfl
   ·exact absurd (M um).2 (by decide)
   ·exact absurd (M um).2 (by decide)
   ·exact absurd (M um).2 (by decide)
   ·have ux:Hid (sN = next∧sL = l.filter ndy∧sE = ⟨8,zCm,0,0,((l.filter dyB).length:Nat),0,0⟩ :: (l.filter dyB).map expE):=⟨by rw [M uB,if_neg (fun h=>by have:=h.2; omega)],by rw [M uo,if_pos rfl,if_neg (by omega),if_neg (by omega),if_neg (by omega)],by rw [M uA,if_pos rfl,if_neg (by omega),if_neg (by omega),if_neg (by omega)]⟩
    clear uB uo uA HQ qA HK jm qF jJ oa
    go_wp2_with fail
    refine M xu _ _ ?_
    clear xu
    go_wp2_with fail
    refine (dq _ l ii w2 (zT (M vO) (by omega))).mono ?_
    generalize plc l ii = pk
    rintro e w3 ⟨rfl,uf⟩
    have qB:=Q (zj (M vO) uf)
    have xM:=Q (eG (M xC) uf)
    clear uf z0 z1 y0 y1 y2 y3 y4 y5 y6 y7 vw xJ oh kS
    have vw:=Q (zf (M HB).2.2.2.2.1 (M xM) uU)
    have oh:w.heap.size + 1 + 1 < w3.heap.size:=yG uU (M xM).size
    have xJ:=Q ((M HB).2.2.2.2.2.trans ((M xM).mono (M HB).2.2.2.2.2.size))
    have kS:qt.heap.size ≤ w3.heap.size:=(M xM).size
    obtain ⟨z0,z1,y0,y1,y2,y3,y4,y5,y6,y7⟩:=M xE w3 (M xM)
    go_wp2_with fail
    refine (l04Days_any _ l w3 (zT (M qB) (by omega)) (by omega)).mono ?_
    rintro e w4 ⟨v4,rfl,hI4,xy⟩
    obtain ⟨ad,cd,hv4⟩:=zO hI4
    subst hv4
    have hnd0:(dys l).length = (l.filter dyB).length:=dysF_len l 0
    clear hI4
    generalize (dys l).length = nd at hnd0 ⊢
    have HND:=Q hnd0
    have hnd20:nd ≤ 20:=by rw [hnd0]; exact yK (List.length_filter_le _ _) vG
    clear hnd0
    have kQ:=Q (zj (M qB) xy)
    have xS:=Q (eG (M xM) xy)
    clear xy z0 z1 y0 y1 y2 y3 y4 y5 y6 y7
    have hsE:=ze w4 (E (ys 8 0 0 0 0 0 0 0 ⟨#[]⟩ 0 0 nd 0 0).toArray 46)
    have hbE:yl w4 ((w4.alloc (E (ys 8 0 0 0 0 0 0 0 ⟨#[]⟩ 0 0 nd 0 0).toArray 46)).alloc (E #[] 49)):=(eD _ _).alloc (by rw [hsE]; omega) _
    have vN:Hid (ERow ((w4.alloc (E (ys 8 0 0 0 0 0 0 0 ⟨#[]⟩ 0 0 nd 0 0).toArray 46)).alloc (E #[] 49)) w4.heap.size (.slice (some (yn w4 0)) 1 1) [⟨8,zCm,0,0,(nd:Int),0,0⟩]):=(eRow_one w4 ⟨8,zCm,0,0,(nd:Int),0,0⟩ tg).alloc _
    have HL5:Hid (ORow ((w4.alloc (E (ys 8 0 0 0 0 0 0 0 ⟨#[]⟩ 0 0 nd 0 0).toArray 46)).alloc (E #[] 49)) w4.heap.size (.slice (some (J (w4.heap.size + 1) 0)) 0 0) []):=by have:=World.ownsRow_made (base:=w4.heap.size) (e:=49) (size:=6) (w4.alloc (E (ys 8 0 0 0 0 0 0 0 ⟨#[]⟩ 0 0 nd 0 0).toArray 46)) #[] 0 (by rw [hsE]; omega) (by decide) rfl; rw [hsE] at this; exact this
    have pf:=Q (zj (M kQ) hbE)
    have vA:=Q (eG (M xS) hbE)
    have h45:w4.heap.size ≤ ((w4.alloc (E (ys 8 0 0 0 0 0 0 0 ⟨#[]⟩ 0 0 nd 0 0).toArray 46)).alloc (E #[] 49)).heap.size:=hbE.size
    have hX4:qt.heap.size ≤ w4.heap.size:=(M xS).size
    have hO4lt:Hid (∀ g,(Value.slice a6 l.length c6).ownBlock = some g→g < w4.heap.size):=fun g hg=>((M kQ).lt g hg).2
    clear hsE hbE
    have hsf:=sfl
    go_wp2_with fail
    generalize ((w4.alloc (E (ys 8 0 0 0 0 0 0 0 ⟨#[]⟩ 0 0 nd 0 0).toArray 46)).alloc (E #[] 49)) = W5 at vN HL5 pf vA h45 ⊢
    go_loopw [11,12,13] (fun evv lfv iv wr=>∃ (k:Nat),k ≤ l.length∧iv = H k∧Hid (ERow wr w4.heap.size evv (⟨8,zCm,0,0,(nd:Int),0,0⟩ :: ((l.take k).filter dyB).map expE)∧ORow wr w4.heap.size lfv ((l.take k).filter ndy)∧ORow wr qt.heap.size (.slice a6 l.length c6) l∧yl qt wr∧w4.heap.size ≤ wr.heap.size)) (fun _ _ iv _=>l.length - (intOf iv).toNat)
    case atStart=>exact ⟨0,Nat.zero_le _,rfl,M vN,M HL5,M pf,M vA,h45⟩
    case round =>
     obtain ⟨k,hk,rfl,uT⟩:=hrel
     by_cases xL:k < l.length
     ·obtain ⟨o,kU⟩:∃ o,l[k]? = some o:=⟨_,yE xL⟩
      obtain ⟨a',c',e1,_,xk⟩:=zT (M uT).2.2.1 (by omega)
      obtain ⟨b,off,e2,hb,xk⟩:=xk (by rintro rfl; simp at kU)
      simp only [Value.slice.injEq] at e1
      obtain ⟨e1,-,-⟩:=e1
      rw [e2] at e1
      subst e1
      have HCL:=Q (xk k o kU)
      obtain ⟨g0,g1,g2,g3,g4,g5⟩:=zx (xk k o kU)
      have uO:(k:Int) < l.length:=by omega
      have hk0:(0:Int) ≤ k:=by omega
      have HKO:=Q kU
      clear xk kU hb e2
      by_cases hd:o.life = 1
      ·have hbd:(o.life == 1) = true:=by simpa using hd
       have HNX:=Q (take_dy (M HKO) hd)
       have HNY:=Q (take_ny (M HKO) hd)
       clear hd
       go_wp2_with fail
       obtain ⟨hE,hL,hO,hB9,hs4⟩:=M uT
       have hlev:(⟨8,zCm,0,0,(nd:Int),0,0⟩ :: ((l.take k).filter dyB).map expE:List Ev).length ≤ 100:=by
        have z:((l.take k).filter dyB).length ≤ 20:=yK (List.length_filter_le _ _) (yK (List.length_take_le _ _) (by omega))
        simp only [List.length_cons,List.length_map]; omega
       have hllf:((l.take k).filter ndy).length ≤ 20:=yK (List.length_filter_le _ _) (yK (List.length_take_le _ _) (by omega))
       have HNXE:Hid ((⟨8,zCm,0,0,(nd:Int),0,0⟩ :: ((l.take (k + 1)).filter dyB).map expE:List Ev) = (⟨8,zCm,0,0,(nd:Int),0,0⟩ :: ((l.take k).filter dyB).map expE) ++ [expE o]):=by show _ = _; rw [M HNX,List.map_append]; rfl
       have kB:=M HNY
       generalize (⟨8,zCm,0,0,(nd:Int),0,0⟩ :: ((l.take k).filter dyB).map expE:List Ev) = evs at hE hlev HNXE
       generalize (l.take k).filter ndy = LF at hL hllf kB
       have kB:=Q kB
       have HE:=Q hE
       have HL:=Q hL
       have HO:=Q hO
       have jH:=Q hB9
       clear hE hL hO hB9 uT
       have HG0:=Q g0
       have vJ:=Q g3
       clear g0 g1 g2 g3 g4 g5
       refine zi (RYBA (fun f=>{ tmps:=#[.agg #[H next,.slice a l.length F],.agg (yu 4 s ty li X ii pr O).toArray,ym w 0,I (w.heap.size + 1) 0,I (w.heap.size + 1 + 1) 0,.slice none 0 0,.slice (some (J b off)) l.length c6,H 0,H pk,Z,.slice ad nd cd,f 14,u12,H k,Z,Z,Z,Z,.slice (some (yn qt 0)) 0 0,ym w 1,.slice a l.length F,.slice (some (J b off)) l.length c6,.agg #[H next,.slice a l.length F],.agg (yu 4 s ty li X ii pr O).toArray,H 0,H 0,.bool false,Z,Z,Z,Z,Z,Z,Z,Z,Z,.slice (some (J b off)) l.length c6,I (w.heap.size + 1) 5,H ii,H pk,I (w.heap.size + 1) 0,H 4,.bool false,.bool false,Z,Z,Z,Z,Z,Z,Z,Z,Z,Z,Z,Z,Z,Z,Z,Z,.bool false,.bool false,Z,Z,Z,Z,Z,Z,Z,Z,Z,Z,Z,Z,Z,Z,Z,Z,.bool true,.bool true,.slice (some (J b off)) l.length c6,.slice ad nd cd,.slice ad nd cd,H nd,.agg (ys 8 0 0 0 0 0 0 0 ⟨#[]⟩ 0 0 nd 0 0).toArray,.slice (some (yn w4 0)) 1 1,.slice (some (J (w4.heap.size + 1) 0)) 0 0,H k,.slice (some (J b off)) l.length c6,H l.length,.bool true,u91,u92,.slice (some (J b off)) l.length c6,H k,I b (off + k * 6),I b (off + k * 6 + 4),H o.life,.bool true,f 0,f 1,f 2,f 3,f 4,f 5,f 6,f 7,f 8,f 9,f 10,f 11,f 12,f 13,u113,u114,u115,u116,u117,u118,u119,Z,Z,Z,Z,Z,Z,Z,Z,Z,Z,Z,Z,Z,Z,Z,Z,Z,Z,Z,Z,Z,Z,Z,Z,Z,Z,Z,Z,Z,Z,Z,Z,Z,Z,Z,Z,Z,Z,Z,Z,Z,Z,Z,Z,Z,Z,Z,Z,Z,Z,Z],defers:=[] }) (CX [u11,.slice (some (J b off)) l.length c6,H k,I b (off + k * 6),I b (off + k * 6),H o.id,.slice (some (J b off)) l.length c6,H k,I b (off + k * 6),I b (off + k * 6 + 3),H o.left,.agg (ys 9 0 0 0 0 0 0 0 ⟨#[]⟩ o.id 0 o.left 0 0).toArray,Z,Z,Z] [(12,3)] (w4.heap.size) 0 [] ([expE o])) 13 (u11) (fun f W=>ERow W w4.heap.size (f 13) (evs ++ [expE o])∧ORow W w4.heap.size u12 LF∧ORow W qt.heap.size (.slice (some (J b off)) l.length c6) l∧yl qt W∧w4.heap.size ≤ W.heap.size) wr) (by kernel_rfl) ?_ ?_ ?_
       ·exact ⟨fun j=>([u99,u100,u101,u102,u103,u104,u105,u106,u107,u108,u109,u110,u111,u112,u11]:List Value)[j]?.getD Z,rfl,ry_start (by decide),ryb_start rfl⟩
       rotate_left
       ·rintro x hR V i op ⟨f,rfl,A,hA⟩ xk hx Y xq D
        have xv:=Q A
        have qu:=Q hA
        clear hA
        have xj:x[13]? = some false→∀ (p:Addr) u,wr.cell? p = some u→V.cell? p = some u:=fun hn p u hu=>((A.b hn).cell (yH wr _ hu)).trans hu
        match i,Y with
        | 0,Y =>
         obtain rfl:=hD Y
         have hn:x[13]? = some false:=zB xk 12 0 13 (by kernel_rfl) hx (by simp) xq
         have jU:f 14 = u11:=(M qu).2 (zB xk 12 0 14 (by kernel_rfl) hx (by simp) xq)
         clear D A xk xj
         rw [if_pos (by rfl)];unfold Oper.wp;go_simp
         exact ⟨upd f 0 u11,by simp [upd,jU],az (M xv) 0 _ hn (by decide) (zZ rfl rfl),aG _ (M qu) (by decide) (by decide)⟩
        | 1,Y =>
         obtain rfl:=hD Y
         have hn:x[13]? = some false:=zB xk 12 1 13 (by kernel_rfl) hx (by simp) xq
         clear D A xk xj
         rw [if_pos (by rfl)];unfold Oper.wp;go_simp
         exact ⟨upd f 1 (.slice (some (J b off)) l.length c6),by simp [upd],az (M xv) 1 _ hn (by decide) (zZ rfl rfl),aG _ (M qu) (by decide) (by decide)⟩
        | 2,Y =>
         obtain rfl:=hD Y
         have hn:x[13]? = some false:=zB xk 12 2 13 (by kernel_rfl) hx (by simp) xq
         clear D A xk xj
         rw [if_pos (by rfl)];unfold Oper.wp;go_simp
         exact ⟨upd f 2 (H k),by simp [upd],az (M xv) 2 _ hn (by decide) (zZ rfl rfl),aG _ (M qu) (by decide) (by decide)⟩
        | 3,Y =>
         obtain rfl:=hD Y
         have hn:x[13]? = some false:=zB xk 12 3 13 (by kernel_rfl) hx (by simp) xq
         have g1:f 1 = .slice (some (J b off)) l.length c6:=zV (A.c hn 1 (yc D 1 rfl)) rfl rfl
         have g2:f 2 = H k:=zV (A.c hn 2 (yc D 2 rfl)) rfl rfl
         clear D A xk xj
         rw [if_pos (by rfl)];unfold Oper.wp;go_simp
         exact ⟨upd f 3 (I b (off + k * 6)),by simp [upd,g1,g2],az (M xv) 3 _ hn (by decide) (zZ rfl rfl),aG _ (M qu) (by decide) (by decide)⟩
        | 4,Y =>
         obtain rfl:=hD Y
         have hn:x[13]? = some false:=zB xk 12 4 13 (by kernel_rfl) hx (by simp) xq
         have g3:f 3 = I b (off + k * 6):=zV (A.c hn 3 (yc D 3 rfl)) rfl rfl
         clear D A xk xj
         rw [if_pos (by rfl)];unfold Oper.wp;go_simp
         exact ⟨upd f 4 (I b (off + k * 6)),by simp [upd,g3],az (M xv) 4 _ hn (by decide) (zZ rfl rfl),aG _ (M qu) (by decide) (by decide)⟩
        | 5,Y =>
         obtain rfl:=hD Y
         have hn:x[13]? = some false:=zB xk 12 5 13 (by kernel_rfl) hx (by simp) xq
         have g4:f 4 = I b (off + k * 6):=zV (A.c hn 4 (yc D 4 rfl)) rfl rfl
         have q0:=xj hn (J b (off + k * 6)) _ (M HG0)
         clear D A xk xj
         rw [if_pos (by rfl)];unfold Oper.wp;go_simp
         exact ⟨upd f 5 (H o.id),by simp [upd,g4],az (M xv) 5 _ hn (by decide) (zZ rfl rfl),aG _ (M qu) (by decide) (by decide)⟩
        | 6,Y =>
         obtain rfl:=hD Y
         have hn:x[13]? = some false:=zB xk 12 6 13 (by kernel_rfl) hx (by simp) xq
         clear D A xk xj
         rw [if_pos (by rfl)];unfold Oper.wp;go_simp
         exact ⟨upd f 6 (.slice (some (J b off)) l.length c6),by simp [upd],az (M xv) 6 _ hn (by decide) (zZ rfl rfl),aG _ (M qu) (by decide) (by decide)⟩
        | 7,Y =>
         obtain rfl:=hD Y
         have hn:x[13]? = some false:=zB xk 12 7 13 (by kernel_rfl) hx (by simp) xq
         clear D A xk xj
         rw [if_pos (by rfl)];unfold Oper.wp;go_simp
         exact ⟨upd f 7 (H k),by simp [upd],az (M xv) 7 _ hn (by decide) (zZ rfl rfl),aG _ (M qu) (by decide) (by decide)⟩
        | 8,Y =>
         obtain rfl:=hD Y
         have hn:x[13]? = some false:=zB xk 12 8 13 (by kernel_rfl) hx (by simp) xq
         have g6:f 6 = .slice (some (J b off)) l.length c6:=zV (A.c hn 6 (yc D 6 rfl)) rfl rfl
         have g7:f 7 = H k:=zV (A.c hn 7 (yc D 7 rfl)) rfl rfl
         clear D A xk xj
         rw [if_pos (by rfl)];unfold Oper.wp;go_simp
         exact ⟨upd f 8 (I b (off + k * 6)),by simp [upd,g6,g7],az (M xv) 8 _ hn (by decide) (zZ rfl rfl),aG _ (M qu) (by decide) (by decide)⟩
        | 9,Y =>
         obtain rfl:=hD Y
         have hn:x[13]? = some false:=zB xk 12 9 13 (by kernel_rfl) hx (by simp) xq
         have g8:f 8 = I b (off + k * 6):=zV (A.c hn 8 (yc D 8 rfl)) rfl rfl
         clear D A xk xj
         rw [if_pos (by rfl)];unfold Oper.wp;go_simp
         exact ⟨upd f 9 (I b (off + k * 6 + 3)),by simp [upd,g8],az (M xv) 9 _ hn (by decide) (zZ rfl rfl),aG _ (M qu) (by decide) (by decide)⟩
        | 10,Y =>
         obtain rfl:=hD Y
         have hn:x[13]? = some false:=zB xk 12 10 13 (by kernel_rfl) hx (by simp) xq
         have g9:f 9 = I b (off + k * 6 + 3):=zV (A.c hn 9 (yc D 9 rfl)) rfl rfl
         have q3:=xj hn (J b (off + k * 6 + 3)) _ (M vJ)
         clear D A xk xj
         rw [if_pos (by rfl)];unfold Oper.wp;go_simp
         exact ⟨upd f 10 (H o.left),by simp [upd,g9],az (M xv) 10 _ hn (by decide) (zZ rfl rfl),aG _ (M qu) (by decide) (by decide)⟩
        | 11,Y =>
         obtain rfl:=hD Y
         have hn:x[13]? = some false:=zB xk 12 11 13 (by kernel_rfl) hx (by simp) xq
         have g5:f 5 = H o.id:=zV (A.c hn 5 (yc D 5 rfl)) rfl rfl
         have vP:f 10 = H o.left:=zV (A.c hn 10 (yc D 10 rfl)) rfl rfl
         clear D A xk xj
         rw [if_pos (by rfl)];unfold Oper.wp;go_simp
         exact ⟨upd f 11 (.agg (ys 9 0 0 0 0 0 0 0 ⟨#[]⟩ o.id 0 o.left 0 0).toArray),by simp [upd,g5,vP],az (M xv) 11 _ hn (by decide) (zZ rfl rfl),aG _ (M qu) (by decide) (by decide)⟩
        | 12,Y =>
         obtain rfl:=hD Y
         have hn:x[13]? = some false:=zB xk 12 12 13 (by kernel_rfl) hx (by simp) xq
         have vr:f 11 = .agg (ys 9 0 0 0 0 0 0 0 ⟨#[]⟩ o.id 0 o.left 0 0).toArray:=zV (A.c hn 11 (yc D 11 rfl)) rfl rfl
         have qO:=yK hs4 (A.b hn).size
         clear D A xk xj
         rw [if_pos (by rfl)];unfold Oper.wp;go_simp
         exact ⟨upd f 12 (.slice (some (yn V 0)) 1 1),by simp [upd,vr],az (ry_grow (cx_monoB (by omega)) (M xv) hn (eD _ _)) 12 _ hn (by decide) (bL (d:=3) rfl ⟨V.heap.size,rfl,by rw [ze]; omega,qO,zg V (expE o).vs _⟩),aG _ (M qu) (by decide) (by decide)⟩
        | 13,Y =>
         obtain rfl:=hD Y
         have hn:x[13]? = some false:=xq
         have g0:f 0 = u11:=zV (A.c hn 0 (yc D 0 rfl)) rfl rfl
         obtain ⟨qg,xX,jV,_,hr12⟩:=cx_sp (d:=3) (A.c hn 12 (yc D 12 rfl)) rfl
         have qY:x[14]? = some false:=zB xk 12 13 14 (by kernel_rfl) hx (by simp) xq
         have xZ:=A.b hn
         have hEV:=zK (M HE) xZ
         have hLV:=zj (M HL) xZ
         have hOV:=zj (M HO) xZ
         have hBV:=(M jH).trans (xZ.mono (M jH).size)
         have hsV:=yK hs4 xZ.size
         rw [if_pos (by rfl)]
         refine wp_append_own V (.tmp 99) (.tmp 111) 38 rfl w4.heap.size 46 j0 _ 14 120 Tryz.underlying38 jk js kM hy2 rfl (by decide) u11 evs.length (evs.flatMap Ev.vs) g0 hEV (J qg 0) 1 1 (expE o).vs xX rfl (fun j u hu=>by rw [Addr.add_mid]; exact hr12 j u hu) (one_ev (expE o)) (by unfold maxLen; omega) (by omega) hsV ?_
         intro v' w' xN ut _
         refine ⟨upd f 13 v',rfl,ry_write (M xv) hn v' ⟨?_,World.ownsRow.kept hLV ut (zD hLV hEV (by decide)),World.ownsRow.kept hOV ut (zD hOV hEV (by decide)),hBV.grown ut hBV.size (fun g hg=>yK hX4 (hEV.lt g hg).1),yK hsV ut.size⟩,ryb_write v' (M qu) qY⟩
         rw [show upd f 13 v' 13 = v' from zp _ _ _]
         show w'.ownsRow _ _ _ _ (evs ++ [expE o]).length _
         rw [yM,List.flatMap_append]
         simpa using xN
        | 14,Y =>
         obtain rfl:=hD Y
         have hn:x[13]? = some true:=D ⟨13,.data⟩ (by simp) rfl
         clear D A xk xj
         rw [if_pos (by rfl)];unfold Oper.wp;go_simp
         exact ⟨upd f 14 (f 13),by simp [upd],ry_after (M xv) 14 _ hn (by decide) (fun h=>h),ryb_lay xq⟩
        | n + 15,Y=>simp at Y
       ·rintro x hR V ⟨f,rfl,A,hA⟩ hx xK
        have xm:=zL xK hx (by kernel_rfl)
        have e14:f 14 = f 13:=hA.1 (xm 14 (by simp))
        obtain ⟨q1,q2,q3,q4,q5⟩:=A.m (xm 13 (by simp))
        rw [← e14] at q1
        have kC:=Q q1
        have HQ2:=Q q2
        have HQ3:=Q q3
        have HQ4:=Q q4
        clear A hA xm xK hx q1 q2 q3 q4 e14
        dsimp only
        generalize f 0 = w0,f 1 = w1,f 2 = w2,f 3 = w3,f 4 = w4,f 5 = w5,f 6 = w6,f 7 = w7,f 8 = w8,f 9 = w9,f 10 = oX,f 11 = w11,f 12 = w12,f 13 = w13
        generalize f 14 = w14 at kC ⊢
        go_wp2_with fail
        dsimp only [H,I,J,Z,yh,yi,ys,yt,yu,ym,yn,E]
        go_roundw
        case rel=>exact ⟨k + 1,by omega,by go_num,by rw [M HNXE]; exact M kC,by rw [M kB]; exact M HQ2,M HQ3,M HQ4,q5⟩
        case measure=>simp [intOf]; omega
      ·have hbd:(o.life == 1) = false:=by rw [xa]; exact hd
       have HNX:=Q (take_no (M HKO) hd)
       have HNY:=Q (take_nd (M HKO) hd)
       clear hd
       obtain ⟨hE,hL,hO,hB9,hs4⟩:=M uT
       have hlev:(⟨8,zCm,0,0,(nd:Int),0,0⟩ :: ((l.take k).filter dyB).map expE:List Ev).length ≤ 100:=by
        have z:((l.take k).filter dyB).length ≤ 20:=yK (List.length_filter_le _ _) (yK (List.length_take_le _ _) (by omega))
        simp only [List.length_cons,List.length_map]; omega
       have hllf:((l.take k).filter ndy).length ≤ 20:=yK (List.length_filter_le _ _) (yK (List.length_take_le _ _) (by omega))
       have HNXE:Hid ((⟨8,zCm,0,0,(nd:Int),0,0⟩ :: ((l.take (k + 1)).filter dyB).map expE:List Ev) = (⟨8,zCm,0,0,(nd:Int),0,0⟩ :: ((l.take k).filter dyB).map expE)):=by show _ = _; rw [M HNX]
       have kB:=M HNY
       generalize (⟨8,zCm,0,0,(nd:Int),0,0⟩ :: ((l.take k).filter dyB).map expE:List Ev) = evs at hE hlev HNXE
       generalize (l.take k).filter ndy = LF at hL hllf kB
       have kB:=Q kB
       have HE:=Q hE
       have HL:=Q hL
       have HO:=Q hO
       have jH:=Q hB9
       clear hE hL hO hB9 uT
       have HLA:=Q ((M HL).alloc (E (yt o.id o.side o.ticks o.left o.life o.tag).toArray 49))
       have uS:Hid (yl wr (wr.alloc (E (yt o.id o.side o.ticks o.left o.life o.tag).toArray 49))):=eD _ _
       go_wp2_with (at_builtin; go_must (refine wpList_append_own _ rfl _ _ 26 rfl w4.heap.size 49 i0 _ 6 56 Tryz.underlying26 uv uq uw uM rfl (by decide) u12 LF.length (LF.flatMap Od.vs) rfl (M HLA) (yn wr 0) 1 1 o.vs rfl rfl (bQ wr o.vs 49) (one_od o) (by unfold maxLen; omega) (by omega) (yK hs4 (M uS).size) ?_); intro v5 w5 un vu _; have pf:=Q un; have jS:=Q vu; clear un vu)
       have HN:Hid (ERow w5 w4.heap.size u11 evs∧ORow w5 w4.heap.size v5 (LF ++ [o])∧ORow w5 qt.heap.size (.slice (some (J b off)) l.length c6) l∧yl qt w5∧w4.heap.size ≤ w5.heap.size):=by
        have hEA:=zK (M HE) (M uS)
        have hOA:=zj (M HO) (M uS)
        have hBA:=(M jH).trans ((M uS).mono (M jH).size)
        refine ⟨World.ownsRow.kept hEA (M jS) (zD hEA (M HLA) (by decide)),?_,World.ownsRow.kept hOA (M jS) (.inr fun e=>?_),hBA.grown (M jS) hBA.size (fun g hg=>yK hX4 ((M HLA).lt g hg).1),yK hs4 (yK (M uS).size (M jS).size)⟩
        ·show w5.ownsRow _ _ _ _ (LF ++ [o]).length _
         rw [yM,List.flatMap_append]
         simpa using M pf
        ·have z:=M hO4lt b rfl
         have K:=((M HLA).lt b e.symm).1
         omega
       clear pf jS
       go_wp2_with fail
       dsimp only [H,I,J,Z,yh,yi,ys,yt,yu,ym,yn,E]
       go_roundw
       case rel=>exact ⟨k + 1,by omega,by go_num,by rw [M HNXE]; exact (M HN).1,by rw [M kB]; exact (M HN).2.1,(M HN).2.2.1,(M HN).2.2.2.1,(M HN).2.2.2.2⟩
       case measure=>simp [intOf]; omega
     ·obtain rfl:k = l.length:=by omega
      have uO:¬ (l.length:Int) < l.length:=by omega
      obtain ⟨hE,hL,hO,hB9,hs4⟩:=M uT
      rw [yW tg] at hE hL
      have HSL9:Hid (sL = l.filter ndy):=(M ux).2.1
      generalize l.filter ndy = LF at hL HSL9
      obtain ⟨al,cl,hv⟩:=zO hL
      subst hv
      obtain ⟨z0,z1,y0,y1,y2,y3,y4,y5,y6,y7⟩:=M xE wr hB9
      have qc:=zf (M HB).2.2.2.2.1 hB9 uU
      obtain ⟨p0,x0,f0⟩:=zd qc (j:=0) (by omega)
      obtain ⟨p1,x1,f1⟩:=zd qc (j:=1) (by omega)
      have af:=(M HB).2.2.2.2.2.trans (hB9.mono (M HB).2.2.2.2.2.size)
      have HWF:Hid (yl w ((wr.setCell (J (w.heap.size + 1 + 1) 0) (H next)).setCell (J (w.heap.size + 1 + 1) 1) (.slice al LF.length cl))):=(af.setCell (p:=(J (w.heap.size + 1 + 1) 0)) (show w.heap.size ≤ w.heap.size + 1 + 1 by omega) _).setCell (p:=(J (w.heap.size + 1 + 1) 1)) (show w.heap.size ≤ w.heap.size + 1 + 1 by omega) _
      have hS4:w.heap.size + 1 + 1 < w4.heap.size:=by omega
      have HEF:Hid (ERow ((wr.setCell (J (w.heap.size + 1 + 1) 0) (H next)).setCell (J (w.heap.size + 1 + 1) 1) (.slice al LF.length cl)) w.heap.size u11 _):=zA (bX (bX hE hS4 0 _) hS4 1 _) (by omega)
      have HLF:Hid (ORow ((wr.setCell (J (w.heap.size + 1 + 1) 0) (H next)).setCell (J (w.heap.size + 1 + 1) 1) (.slice al LF.length cl)) w.heap.size (.slice al LF.length cl) LF):=zA (br (br hL hS4 0 _) hS4 1 _) (by omega)
      have d0:((wr.setCell (J (w.heap.size + 1 + 1) 0) (H next)).setCell (J (w.heap.size + 1 + 1) 1) (.slice al LF.length cl)).cell? (J (w.heap.size + 1 + 1) 0) = some (H next):=(yI _ _ _ _ (zI (by decide))).trans (yJ _ _ _ x0)
      have d1:((wr.setCell (J (w.heap.size + 1 + 1) 0) (H next)).setCell (J (w.heap.size + 1 + 1) 1) (.slice al LF.length cl)).cell? (J (w.heap.size + 1 + 1) 1) = some (.slice al LF.length cl):=yJ _ _ _ ((yI _ _ _ _ (zI (by decide))).trans x1)
      have jQ:=Q d0
      have qm:=Q d1
      clear hE hL hO hB9 uT qc af d0 d1 y0 y1 y2 y3 y4 y5 y6 y7
      go_wp2_with fail
      have d0:=M jQ
      have d1:=M qm
      try simp only [Exit.inBlock,Exit.then]
      refine bodyPost_ret (by simp [results,Tryz.results44,go_sem,d0,d1]; try rfl) rfl ?_
      obtain ⟨rfl,-,jG⟩:=M ux
      rw [← M HND] at jG
      have kc:=M HSL9
      subst kc jG
      exact ⟨_,_,rfl,M HLF,M HEF,M HWF⟩
  ·have kK:=uR
   have qz:(rr == 0) = false:=by rw [xa]; exact uR
   have ux:Hid (sN = next∧sL = l∧sE = [⟨2,⟨kk,s,ty,li,X,ii,pr,cutB O⟩,0,0,0,0,rr⟩]):=⟨by rw [M uB,if_neg (fun h=>uR h.1)],by rw [M uo,if_neg uR],by rw [M uA,if_neg uR]⟩
   skip
   exact absurd (M um).1 kK
 rcases M uW with hs | ⟨ad,nn,cc,hs⟩
 ·simp only [Value.slice.injEq] at hs
  obtain ⟨rfl,oT,rfl⟩:=hs
  obtain rfl:=List.length_eq_zero_iff.1 oT
  obtain ⟨z0,z1,y0,y1,y2,y3,y4,y5,y6,y7⟩:=M xE qt (Below.refl _ _)
  have vB:=Q (World.ownsRow_made (base:=qt.heap.size) (e:=49) (size:=6) qt #[] 0 tg (by decide) rfl)
  have hzX:World.cell? (qt.alloc (E #[] 49)) (yn w 1) = some (.slice none 0 0):=(M xE _ (eD _ _)).2.1
  have kD:=Q HT
  clear HT hK
  go_wp2_with (at_builtin; go_must (refine wpList_append_own_none rfl _ _ 26 rfl qt.heap.size 49 i0 6 Tryz.underlying26 uv (.slice (some (yn qt 0)) 0 0) 0 [] rfl (M vB) rfl ?_))
  exact M kD _ _ _ (M vB) (eD _ _)
 ·simp only [Value.slice.injEq] at hs
  obtain ⟨rfl,rfl,rfl⟩:=hs
  obtain ⟨z0,z1,y0,y1,y2,y3,y4,y5,y6,y7⟩:=M xE qt (Below.refl _ _)
  have uF:Hid (yl qt (qt.alloc (E #[] 49))):=eD _ _
  have vB:=Q (World.ownsRow_made (base:=qt.heap.size) (e:=49) (size:=6) qt #[] 0 tg (by decide) rfl)
  have hzX:World.cell? (qt.alloc (E #[] 49)) (yn w 1) = some (.slice (some ad) l.length F):=(M xE _ (M uF)).2.1
  have uQ:Hid (∀ j u,(l.flatMap Od.vs)[j]? = some u→World.cell? (qt.alloc (E #[] 49)) (ad.add j) = some u):=rd_src (zh (M HR) ((M HB).2.2.2.2.2.trans ((M uF).mono (M HB).2.2.2.2.2.size)) tg)
  have kD:=Q HT
  clear HT hK
  go_wp2_with (at_builtin; go_must (refine wpList_append_own _ rfl _ _ 26 rfl qt.heap.size 49 i0 _ 6 56 Tryz.underlying26 uv uq uw uM rfl (by decide) (.slice (some (yn qt 0)) 0 0) 0 [] rfl (M vB) ad l.length F (l.flatMap Od.vs) rfl (by rw [zM Od.len]) (M uQ) (bh l) (by unfold maxLen; omega) (by omega) (M uF).size ?_); intro v1 w1 uP oo _; have uZ:=Q uP; have kg:=Q oo; clear uP oo)
  have pU:Hid (ORow w1 qt.heap.size v1 l):=by
   show w1.ownsRow _ _ _ _ l.length _
   simpa using M uZ
  obtain ⟨a6,c6,hv⟩:=zO (M pU)
  subst hv
  exact M kD _ _ _ (M pU) ((M uF).grown (M kg) (M uF).size (fun k hk=>((M vB).lt k hk).1))
end Go.Proofs.YtbakanofkghmiaaGreat
