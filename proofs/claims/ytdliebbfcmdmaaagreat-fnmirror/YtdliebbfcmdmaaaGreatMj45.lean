/-
  A command done on a book, by the model: proved by walking the function.
-/
import Derived.Test.YtdliebbfcmdmaaaGreatMj42
set_option linter.unusedVariables false
set_option maxHeartbeats 6400000
set_option maxRecDepth 100000
namespace Go.Proofs.YtdliebbfcmdmaaaGreat
open Go.RowKit
theorem l04Step_y (next:Int) (vb:Value) (l:List Od) (c:Cm) (w:World) (qU:refR next l c = 0∧c.k = 4) (hr:RdR Od.vs 6 w vb l) (hs:SlOk vb) (hg:GoodL l) (uF:∀ x ∈ l,x.side = 1 ∨ x.side = 2) (h0:0 ≤ next) (Q:next ≤ 1000000) (ht:c.g.size ≤ maxLen) :
  Calls Tryz.prog 36 #[.agg #[H next,vb],cmV c] w fun e w'=>∃ vq vg,e = ym (.tuple #[.agg #[H (stN next l c),vq],vg])∧ORow w' w.heap.size vq (stL next l c)∧ERow w' w.heap.size vg (stE next l c)∧yn w w':=by
 obtain ⟨i0,uE,uA,uC,uM⟩:=info_parts Tryz.infoOrder
 obtain ⟨j0,jd,pO,hy1,hy2⟩:=info_parts infoEv
 have HR:=Y hr
 have vR:=Y hs
 have HG:=Y hg
 have qI:=Y ht
 have vO:=hg.len
 have uG:Hid (0 ≤ next∧next ≤ 1000000):=⟨h0,Q⟩
 have uO:=Y (fun (W:World) hW=>cV next vb l c W hW hs hg uF ht)
 rw [ref_eq] at uO
 have HK:=Y (@cN next l c)
 have HQ:=Y (@bY next l c)
 have qH:=Y (@ref_id next l c)
 have jB:=Y (@ref_newS next l c)
 have uz:=Y qU
 clear qU
 have vl:Hid (stN next l c = if refR next l c = 0∧c.k = 1 then next + 1 else next):=rfl
 have uD:=Y (stL.eq_1 next l c)
 have vk:=Y (stE.eq_1 next l c)
 have oA:=Y (fun W=>dk c W ht)
 have qM:=Y (fun (a:Option Addr) (n A:Nat) (W:World)=>cY next a n A c W)
 have kh:=Y (fun (v:Value) (W:World) hr hs hp jm jn=>cX v l c next W hr hg hs hp jm jn)
 obtain ⟨a,A,rfl,vI,hc⟩:=hr
 obtain ⟨kk,s,X,li,F,ii,pr,O⟩:=c
 generalize stN next l ⟨kk,s,X,li,F,ii,pr,O⟩ = sN at vl ⊢
 generalize stL next l ⟨kk,s,X,li,F,ii,pr,O⟩ = sL at uD ⊢
 generalize stE next l ⟨kk,s,X,li,F,ii,pr,O⟩ = sE at vk ⊢
 generalize refR next l ⟨kk,s,X,li,F,ii,pr,O⟩ = rr at uO vl uD vk HK HQ qH jB uz
 unfold cmV at uO qM ⊢
 simp only at uO vl uD vk HK HQ qH jB oA qM kh qI uz ⊢
 have HB:=Y (box3 w [H next,.slice a l.length A] (yw kk s X li F ii pr O) [H 0,.slice none 0 0] 31 27 31)
 clear hs hg uF h0 Q ht hc vI
 go_enter Tryz.func36,Tryz.ntmps36
 refine ei fun hR xu=>?_
 go_wp2_with fail
 refine U xu _ _ ?_
 clear xu
 change Hid ((((w.alloc (E #[H next,.slice a l.length A] 31)).alloc (E (yw kk s X li F ii pr O).toArray 27)).alloc (E #[H 0,.slice none 0 0] 31)).heap.size = w.heap.size + 3∧World.rangeAt (((w.alloc (E #[H next,.slice a l.length A] 31)).alloc (E (yw kk s X li F ii pr O).toArray 27)).alloc (E #[H 0,.slice none 0 0] 31)) w.heap.size 0 [H next,.slice a l.length A]∧World.rangeAt (((w.alloc (E #[H next,.slice a l.length A] 31)).alloc (E (yw kk s X li F ii pr O).toArray 27)).alloc (E #[H 0,.slice none 0 0] 31)) (w.heap.size + 1) 0 (yw kk s X li F ii pr O)∧World.rangeAt (((w.alloc (E #[H next,.slice a l.length A] 31)).alloc (E (yw kk s X li F ii pr O).toArray 27)).alloc (E #[H 0,.slice none 0 0] 31)) (w.heap.size + 1 + 1) 0 [H 0,.slice none 0 0]∧World.there (((w.alloc (E #[H next,.slice a l.length A] 31)).alloc (E (yw kk s X li F ii pr O).toArray 27)).alloc (E #[H 0,.slice none 0 0] 31)) (w.heap.size + 1 + 1) 0 2∧yn w (((w.alloc (E #[H next,.slice a l.length A] 31)).alloc (E (yw kk s X li F ii pr O).toArray 27)).alloc (E #[H 0,.slice none 0 0] 31))) at HB
 generalize (((w.alloc (E #[H next,.slice a l.length A] 31)).alloc (E (yw kk s X li F ii pr O).toArray 27)).alloc (E #[H 0,.slice none 0 0] 31)) = ty at HB ⊢
 have xM:Hid (∀ W:World,yn ty W→W.cell? (yq w 0) = some (H next)∧W.cell? (yq w 1) = some (.slice a l.length A)∧W.cell? (J (w.heap.size + 1) 0) = some (H kk)∧W.cell? (J (w.heap.size + 1) 1) = some (H s)∧W.cell? (J (w.heap.size + 1) 2) = some (H X)∧W.cell? (J (w.heap.size + 1) 3) = some (H li)∧W.cell? (J (w.heap.size + 1) 4) = some (H F)∧W.cell? (J (w.heap.size + 1) 5) = some (H ii)∧W.cell? (J (w.heap.size + 1) 6) = some (yj pr)∧W.cell? (J (w.heap.size + 1) 7) = some (yk O)):=fun W hW =>
  have p:=zb (U HB).2.1 hW (by have:=(U HB).1; omega)
  have q:=zb (U HB).2.2.1 hW (by have:=(U HB).1; omega)
  ⟨p 0 _ rfl,p 1 _ rfl,q 0 _ rfl,q 1 _ rfl,q 2 _ rfl,q 3 _ rfl,q 4 _ rfl,q 5 _ rfl,q 6 _ rfl,q 7 _ rfl⟩
 have vU:w.heap.size + 1 + 1 < ty.heap.size:=by have:=(U HB).1; omega
 refine wp_seq_k fun hR hK=>?_
 have HT:∀ (a6:Option Addr) (c6:Nat) (w1:World),ORow w1 ty.heap.size (.slice a6 l.length c6) l→yn ty w1→hR { tmps:=#[.agg #[H next,.slice a l.length A],.agg (yw kk s X li F ii pr O).toArray,yp w 0,I (w.heap.size + 1) 0,I (w.heap.size + 1 + 1) 0,.slice none 0 0,.slice a6 l.length c6,M,M,M,M,M,M,M,M,M,M,M,.slice (some (yq ty 0)) 0 0,yp w 1,.slice a l.length A,.slice a6 l.length c6,M,M,M,M,M,M,M,M,M,M,M,M,M,M,M,M,M,M,M,M,M,M,M,M,M,M,M,M,M,M,M,M,M,M,M,M,M,M,M,M,M,M,M,M,M,M,M,M,M,M,M,M,M,M,M,M,M,M,M,M,M,M,M,M,M,M,M,M,M,M,M,M,M,M,M,M,M,M,M,M,M,M,M,M,M,M,M,M,M,M,M,M,M,M,M,M,M,M,M,M,M,M,M,M,M,M,M,M,M,M,M,M,M,M,M,M,M,M,M,M,M,M,M,M,M,M,M,M,M,M,M,M,M,M,M,M,M,M,M,M,M,M,M,M,M,M,M,M,M],defers:=[] } w1:=by
  intro a6 c6 w1 qb xX
  refine hK _ _ ?_
  clear hK
  have vh:=Y qb
  have xW:=Y xX
  clear qb xX
  obtain ⟨z0,z1,y0,y1,y2,y3,y4,y5,y6,y7⟩:=U xM w1 (U xW)
  refine ei fun hR xu=>?_
  go_wp2_with fail
  refine (U uO w1 (zl (U HR) ((U HB).2.2.2.2.2.trans ((U xW).mono (U HB).2.2.2.2.2.size)) tg)).mono ?_
  rintro e w2 ⟨rfl,xZ⟩
  have vW:=Y (zk (U vh) xZ)
  have xF:=Y (eh (U xW) xZ)
  clear z0 z1 y0 y1 y2 y3 y4 y5 y6 y7 xZ vh
  obtain ⟨z0,z1,y0,y1,y2,y3,y4,y5,y6,y7⟩:=U xM w2 (U xF)
  have vX:=Y (zf (U HB).2.2.2.2.1 (U xF) vU)
  have oF:w.heap.size + 1 + 1 < w2.heap.size:=yJ vU (U xF).size
  have xE:=Y ((U HB).2.2.2.2.2.trans ((U xF).mono (U HB).2.2.2.2.2.size))
  have hXw:w.heap.size ≤ ty.heap.size:=by omega
  have hX2:ty.heap.size ≤ w2.heap.size:=(U xF).size
  have ol:=hX2
  by_cases vf:rr = 0
  ·subst vf
   have pF:=U HK rfl
   rcases pF with rfl | rfl | rfl | rfl
   ·exact absurd (U uz).2 (by decide)
   ·exact absurd (U uz).2 (by decide)
   ·exact absurd (U uz).2 (by decide)
   ·have uI:Hid (sN = next∧sL = l.filter ndy∧sE = ⟨8,zCm,0,0,((l.filter dyB).length:Nat),0,0⟩ :: (l.filter dyB).map expE):=⟨by rw [U vl,if_neg (fun h=>by have:=h.2; omega)],by rw [U uD,if_pos rfl,if_neg (by omega),if_neg (by omega),if_neg (by omega)],by rw [U vk,if_pos rfl,if_neg (by omega),if_neg (by omega),if_neg (by omega)]⟩
    clear vl uD vk HQ qH HK jB qM kh oA
    go_wp2_with fail
    refine U xu _ _ ?_
    clear xu
    go_wp2_with fail
    refine (cZ _ l ii w2 (zK (U vW) (by omega))).mono ?_
    generalize plc l ii = pk
    rintro e w3 ⟨rfl,uH⟩
    have qL:=Y (zk (U vW) uH)
    have xT:=Y (eh (U xF) uH)
    clear uH z0 z1 y0 y1 y2 y3 y4 y5 y6 y7 vX xE oF ol
    have vX:=Y (zf (U HB).2.2.2.2.1 (U xT) vU)
    have oF:w.heap.size + 1 + 1 < w3.heap.size:=yJ vU (U xT).size
    have xE:=Y ((U HB).2.2.2.2.2.trans ((U xT).mono (U HB).2.2.2.2.2.size))
    have ol:ty.heap.size ≤ w3.heap.size:=(U xT).size
    obtain ⟨z0,z1,y0,y1,y2,y3,y4,y5,y6,y7⟩:=U xM w3 (U xT)
    go_wp2_with fail
    refine (l04Days_any _ l w3 (zK (U qL) (by omega)) (by omega)).mono ?_
    rintro e w4 ⟨v4,rfl,hI4,xC⟩
    obtain ⟨ad,cd,hv4⟩:=zR hI4
    subst hv4
    have hnd0:(dys l).length = (l.filter dyB).length:=dysF_lenO l 0
    clear hI4
    generalize (dys l).length = nd at hnd0 ⊢
    have HND:=Y hnd0
    have hnd20:nd ≤ 20:=by rw [hnd0]; exact yN (List.length_filter_le _ _) vO
    clear hnd0
    have oi:=Y (zk (U qL) xC)
    have un:=Y (eh (U xT) xC)
    clear xC z0 z1 y0 y1 y2 y3 y4 y5 y6 y7
    have hsE:=ze w4 (E (yu 8 0 0 0 0 0 0 0 ⟨#[]⟩ 0 0 nd 0 0).toArray 41)
    have hbE:yn w4 ((w4.alloc (E (yu 8 0 0 0 0 0 0 0 ⟨#[]⟩ 0 0 nd 0 0).toArray 41)).alloc (E #[] 66)):=(ed _ _).alloc (by rw [hsE]; omega) _
    have qd:Hid (ERow ((w4.alloc (E (yu 8 0 0 0 0 0 0 0 ⟨#[]⟩ 0 0 nd 0 0).toArray 41)).alloc (E #[] 66)) w4.heap.size (.slice (some (yq w4 0)) 1 1) [⟨8,zCm,0,0,(nd:Int),0,0⟩]):=(eRow_one w4 ⟨8,zCm,0,0,(nd:Int),0,0⟩ tg).alloc _
    have HL5:Hid (ORow ((w4.alloc (E (yu 8 0 0 0 0 0 0 0 ⟨#[]⟩ 0 0 nd 0 0).toArray 41)).alloc (E #[] 66)) w4.heap.size (.slice (some (J (w4.heap.size + 1) 0)) 0 0) []):=by have:=World.ownsRow_made (base:=w4.heap.size) (e:=66) (size:=6) (w4.alloc (E (yu 8 0 0 0 0 0 0 0 ⟨#[]⟩ 0 0 nd 0 0).toArray 41)) #[] 0 (by rw [hsE]; omega) (by decide) rfl; rw [hsE] at this; exact this
    have kD:=Y (zk (U oi) hbE)
    have km:=Y (eh (U un) hbE)
    have h45:w4.heap.size ≤ ((w4.alloc (E (yu 8 0 0 0 0 0 0 0 ⟨#[]⟩ 0 0 nd 0 0).toArray 41)).alloc (E #[] 66)).heap.size:=hbE.size
    have hX4:ty.heap.size ≤ w4.heap.size:=(U un).size
    have hO4lt:Hid (∀ g,(Value.slice a6 l.length c6).ownBlock = some g→g < w4.heap.size):=fun g hg=>((U oi).lt g hg).2
    clear hsE hbE
    have hsf:=sfl
    go_wp2_with fail
    generalize ((w4.alloc (E (yu 8 0 0 0 0 0 0 0 ⟨#[]⟩ 0 0 nd 0 0).toArray 41)).alloc (E #[] 66)) = W5 at qd HL5 kD km h45 ⊢
    go_loopw [11,12,13] (fun evv lfv iv wr=>∃ (k:Nat),k ≤ l.length∧iv = H k∧Hid (ERow wr w4.heap.size evv (⟨8,zCm,0,0,(nd:Int),0,0⟩ :: ((l.take k).filter dyB).map expE)∧ORow wr w4.heap.size lfv ((l.take k).filter ndy)∧ORow wr ty.heap.size (.slice a6 l.length c6) l∧yn ty wr∧w4.heap.size ≤ wr.heap.size)) (fun _ _ iv _=>l.length - (intOf iv).toNat)
    case atStart=>exact ⟨0,Nat.zero_le _,rfl,U qd,U HL5,U kD,U km,h45⟩
    case round =>
     obtain ⟨k,hk,rfl,uu⟩:=hrel
     by_cases xK:k < l.length
     ·obtain ⟨o,hko⟩:∃ o,l[k]? = some o:=⟨_,yH xK⟩
      obtain ⟨a',c',e1,_,xo⟩:=zK (U uu).2.2.1 (by omega)
      obtain ⟨b,off,e2,L,xo⟩:=xo (by rintro rfl; simp at hko)
      simp only [Value.slice.injEq] at e1
      obtain ⟨e1,-,-⟩:=e1
      rw [e2] at e1
      subst e1
      have qk:=Y (xo k o hko)
      obtain ⟨g0,g1,g2,g3,g4,g5⟩:=zC (xo k o hko)
      have uv:(k:Int) < l.length:=by omega
      have hk0:(0:Int) ≤ k:=by omega
      have HKO:=Y hko
      clear xo hko L e2
      by_cases hd:o.life = 1
      ·have hbd:(o.life == 1) = true:=by simpa using hd
       have qf:=Y (take_dy (U HKO) hd)
       have HNY:=Y (take_ny (U HKO) hd)
       clear hd
       go_wp2_with fail
       obtain ⟨hE,hL,hO,hB9,hs4⟩:=U uu
       have hlev:(⟨8,zCm,0,0,(nd:Int),0,0⟩ :: ((l.take k).filter dyB).map expE:List Ev).length ≤ 100:=by
        have Q:((l.take k).filter dyB).length ≤ 20:=yN (List.length_filter_le _ _) (yN (List.length_take_le _ _) (by omega))
        simp only [List.length_cons,List.length_map]; omega
       have hllf:((l.take k).filter ndy).length ≤ 20:=yN (List.length_filter_le _ _) (yN (List.length_take_le _ _) (by omega))
       have HNXE:Hid ((⟨8,zCm,0,0,(nd:Int),0,0⟩ :: ((l.take (k + 1)).filter dyB).map expE:List Ev) = (⟨8,zCm,0,0,(nd:Int),0,0⟩ :: ((l.take k).filter dyB).map expE) ++ [expE o]):=by show _ = _; rw [U qf,List.map_append]; rfl
       have kS:=U HNY
       generalize (⟨8,zCm,0,0,(nd:Int),0,0⟩ :: ((l.take k).filter dyB).map expE:List Ev) = evs at hE hlev HNXE
       generalize (l.take k).filter ndy = LF at hL hllf kS
       have kS:=Y kS
       have HE:=Y hE
       have HL:=Y hL
       have HO:=Y hO
       have kQ:=Y hB9
       clear hE hL hO hB9 uu
       have HG0:=Y g0
       have vK:=Y g3
       clear g0 g1 g2 g3 g4 g5
       refine zh (RYBA (fun f=>{ tmps:=#[.agg #[H next,.slice a l.length A],.agg (yw 4 s X li F ii pr O).toArray,yp w 0,I (w.heap.size + 1) 0,I (w.heap.size + 1 + 1) 0,.slice none 0 0,.slice (some (J b off)) l.length c6,H 0,H pk,M,.slice ad nd cd,f 14,u12,H k,M,M,M,M,.slice (some (yq ty 0)) 0 0,yp w 1,.slice a l.length A,.slice (some (J b off)) l.length c6,.agg #[H next,.slice a l.length A],.agg (yw 4 s X li F ii pr O).toArray,H 0,H 0,.bool false,M,M,M,M,M,M,M,M,M,.slice (some (J b off)) l.length c6,I (w.heap.size + 1) 5,H ii,H pk,I (w.heap.size + 1) 0,H 4,.bool false,.bool false,M,M,M,M,M,M,M,M,M,M,M,M,M,M,M,M,.bool false,.bool false,M,M,M,M,M,M,M,M,M,M,M,M,M,M,M,M,.bool true,.bool true,.slice (some (J b off)) l.length c6,.slice ad nd cd,.slice ad nd cd,H nd,.agg (yu 8 0 0 0 0 0 0 0 ⟨#[]⟩ 0 0 nd 0 0).toArray,.slice (some (yq w4 0)) 1 1,.slice (some (J (w4.heap.size + 1) 0)) 0 0,H k,.slice (some (J b off)) l.length c6,H l.length,.bool true,u91,u92,.slice (some (J b off)) l.length c6,H k,I b (off + k * 6),I b (off + k * 6 + 4),H o.life,.bool true,f 0,f 1,f 2,f 3,f 4,f 5,f 6,f 7,f 8,f 9,f 10,f 11,f 12,f 13,u113,u114,u115,u116,u117,u118,u119,M,M,M,M,M,M,M,M,M,M,M,M,M,M,M,M,M,M,M,M,M,M,M,M,M,M,M,M,M,M,M,M,M,M,M,M,M,M,M,M,M,M,M,M,M,M,M,M,M,M,M],defers:=[] }) (CX [u11,.slice (some (J b off)) l.length c6,H k,I b (off + k * 6),I b (off + k * 6),H o.id,.slice (some (J b off)) l.length c6,H k,I b (off + k * 6),I b (off + k * 6 + 3),H o.left,.agg (yu 9 0 0 0 0 0 0 0 ⟨#[]⟩ o.id 0 o.left 0 0).toArray,M,M,M] [(12,3)] (w4.heap.size) 0 [] ([expE o])) 13 (u11) (fun f W=>ERow W w4.heap.size (f 13) (evs ++ [expE o])∧ORow W w4.heap.size u12 LF∧ORow W ty.heap.size (.slice (some (J b off)) l.length c6) l∧yn ty W∧w4.heap.size ≤ W.heap.size) wr) (by kernel_rfl) ?_ ?_ ?_
       ·exact ⟨fun j=>([u99,u100,u101,u102,u103,u104,u105,u106,u107,u108,u109,u110,u111,u112,u11]:List Value)[j]?.getD M,rfl,ry_start (by decide),ryb_start rfl⟩
       rotate_left
       ·rintro x xm V i op ⟨f,rfl,K,hA⟩ xo hx Z xy D
        have xz:=Y K
        have qB:=Y hA
        clear hA
        have xn:x[13]? = some false→∀ (p:Addr) u,wr.cell? p = some u→V.cell? p = some u:=fun hn p u hu=>((K.b hn).cell (yK wr _ hu)).trans hu
        match i,Z with
        | 0,Z =>
         obtain rfl:=ya Z
         have hn:x[13]? = some false:=zw xo 12 0 13 (by kernel_rfl) hx (by simp) xy
         have kw:f 14 = u11:=(U qB).2 (zw xo 12 0 14 (by kernel_rfl) hx (by simp) xy)
         clear D K xo xn
         rw [if_pos (by rfl)];unfold Oper.wp;go_simp
         exact ⟨upd f 0 u11,by simp [upd,kw],zV (U xz) 0 _ hn (by decide) (zU rfl rfl),zW _ (U qB) (by decide) (by decide)⟩
        | 1,Z =>
         obtain rfl:=ya Z
         have hn:x[13]? = some false:=zw xo 12 1 13 (by kernel_rfl) hx (by simp) xy
         clear D K xo xn
         rw [if_pos (by rfl)];unfold Oper.wp;go_simp
         exact ⟨upd f 1 (.slice (some (J b off)) l.length c6),by simp [upd],zV (U xz) 1 _ hn (by decide) (zU rfl rfl),zW _ (U qB) (by decide) (by decide)⟩
        | 2,Z =>
         obtain rfl:=ya Z
         have hn:x[13]? = some false:=zw xo 12 2 13 (by kernel_rfl) hx (by simp) xy
         clear D K xo xn
         rw [if_pos (by rfl)];unfold Oper.wp;go_simp
         exact ⟨upd f 2 (H k),by simp [upd],zV (U xz) 2 _ hn (by decide) (zU rfl rfl),zW _ (U qB) (by decide) (by decide)⟩
        | 3,Z =>
         obtain rfl:=ya Z
         have hn:x[13]? = some false:=zw xo 12 3 13 (by kernel_rfl) hx (by simp) xy
         have g1:f 1 = .slice (some (J b off)) l.length c6:=zQ (K.c hn 1 (ye D 1 rfl)) rfl rfl
         have g2:f 2 = H k:=zQ (K.c hn 2 (ye D 2 rfl)) rfl rfl
         clear D K xo xn
         rw [if_pos (by rfl)];unfold Oper.wp;go_simp
         exact ⟨upd f 3 (I b (off + k * 6)),by simp [upd,g1,g2],zV (U xz) 3 _ hn (by decide) (zU rfl rfl),zW _ (U qB) (by decide) (by decide)⟩
        | 4,Z =>
         obtain rfl:=ya Z
         have hn:x[13]? = some false:=zw xo 12 4 13 (by kernel_rfl) hx (by simp) xy
         have g3:f 3 = I b (off + k * 6):=zQ (K.c hn 3 (ye D 3 rfl)) rfl rfl
         clear D K xo xn
         rw [if_pos (by rfl)];unfold Oper.wp;go_simp
         exact ⟨upd f 4 (I b (off + k * 6)),by simp [upd,g3],zV (U xz) 4 _ hn (by decide) (zU rfl rfl),zW _ (U qB) (by decide) (by decide)⟩
        | 5,Z =>
         obtain rfl:=ya Z
         have hn:x[13]? = some false:=zw xo 12 5 13 (by kernel_rfl) hx (by simp) xy
         have g4:f 4 = I b (off + k * 6):=zQ (K.c hn 4 (ye D 4 rfl)) rfl rfl
         have q0:=xn hn (J b (off + k * 6)) _ (U HG0)
         clear D K xo xn
         rw [if_pos (by rfl)];unfold Oper.wp;go_simp
         exact ⟨upd f 5 (H o.id),by simp [upd,g4],zV (U xz) 5 _ hn (by decide) (zU rfl rfl),zW _ (U qB) (by decide) (by decide)⟩
        | 6,Z =>
         obtain rfl:=ya Z
         have hn:x[13]? = some false:=zw xo 12 6 13 (by kernel_rfl) hx (by simp) xy
         clear D K xo xn
         rw [if_pos (by rfl)];unfold Oper.wp;go_simp
         exact ⟨upd f 6 (.slice (some (J b off)) l.length c6),by simp [upd],zV (U xz) 6 _ hn (by decide) (zU rfl rfl),zW _ (U qB) (by decide) (by decide)⟩
        | 7,Z =>
         obtain rfl:=ya Z
         have hn:x[13]? = some false:=zw xo 12 7 13 (by kernel_rfl) hx (by simp) xy
         clear D K xo xn
         rw [if_pos (by rfl)];unfold Oper.wp;go_simp
         exact ⟨upd f 7 (H k),by simp [upd],zV (U xz) 7 _ hn (by decide) (zU rfl rfl),zW _ (U qB) (by decide) (by decide)⟩
        | 8,Z =>
         obtain rfl:=ya Z
         have hn:x[13]? = some false:=zw xo 12 8 13 (by kernel_rfl) hx (by simp) xy
         have g6:f 6 = .slice (some (J b off)) l.length c6:=zQ (K.c hn 6 (ye D 6 rfl)) rfl rfl
         have g7:f 7 = H k:=zQ (K.c hn 7 (ye D 7 rfl)) rfl rfl
         clear D K xo xn
         rw [if_pos (by rfl)];unfold Oper.wp;go_simp
         exact ⟨upd f 8 (I b (off + k * 6)),by simp [upd,g6,g7],zV (U xz) 8 _ hn (by decide) (zU rfl rfl),zW _ (U qB) (by decide) (by decide)⟩
        | 9,Z =>
         obtain rfl:=ya Z
         have hn:x[13]? = some false:=zw xo 12 9 13 (by kernel_rfl) hx (by simp) xy
         have g8:f 8 = I b (off + k * 6):=zQ (K.c hn 8 (ye D 8 rfl)) rfl rfl
         clear D K xo xn
         rw [if_pos (by rfl)];unfold Oper.wp;go_simp
         exact ⟨upd f 9 (I b (off + k * 6 + 3)),by simp [upd,g8],zV (U xz) 9 _ hn (by decide) (zU rfl rfl),zW _ (U qB) (by decide) (by decide)⟩
        | 10,Z =>
         obtain rfl:=ya Z
         have hn:x[13]? = some false:=zw xo 12 10 13 (by kernel_rfl) hx (by simp) xy
         have g9:f 9 = I b (off + k * 6 + 3):=zQ (K.c hn 9 (ye D 9 rfl)) rfl rfl
         have q3:=xn hn (J b (off + k * 6 + 3)) _ (U vK)
         clear D K xo xn
         rw [if_pos (by rfl)];unfold Oper.wp;go_simp
         exact ⟨upd f 10 (H o.left),by simp [upd,g9],zV (U xz) 10 _ hn (by decide) (zU rfl rfl),zW _ (U qB) (by decide) (by decide)⟩
        | 11,Z =>
         obtain rfl:=ya Z
         have hn:x[13]? = some false:=zw xo 12 11 13 (by kernel_rfl) hx (by simp) xy
         have g5:f 5 = H o.id:=zQ (K.c hn 5 (ye D 5 rfl)) rfl rfl
         have qC:f 10 = H o.left:=zQ (K.c hn 10 (ye D 10 rfl)) rfl rfl
         clear D K xo xn
         rw [if_pos (by rfl)];unfold Oper.wp;go_simp
         exact ⟨upd f 11 (.agg (yu 9 0 0 0 0 0 0 0 ⟨#[]⟩ o.id 0 o.left 0 0).toArray),by simp [upd,g5,qC],zV (U xz) 11 _ hn (by decide) (zU rfl rfl),zW _ (U qB) (by decide) (by decide)⟩
        | 12,Z =>
         obtain rfl:=ya Z
         have hn:x[13]? = some false:=zw xo 12 12 13 (by kernel_rfl) hx (by simp) xy
         have vF:f 11 = .agg (yu 9 0 0 0 0 0 0 0 ⟨#[]⟩ o.id 0 o.left 0 0).toArray:=zQ (K.c hn 11 (ye D 11 rfl)) rfl rfl
         have qT:=yN hs4 (K.b hn).size
         clear D K xo xn
         rw [if_pos (by rfl)];unfold Oper.wp;go_simp
         exact ⟨upd f 12 (.slice (some (yq V 0)) 1 1),by simp [upd,vF],zV (ry_grow (cx_monoB (by omega)) (U xz) hn (ed _ _)) 12 _ hn (by decide) (bF (d:=3) rfl ⟨V.heap.size,rfl,by rw [ze]; omega,qT,zg V (expE o).vs _⟩),zW _ (U qB) (by decide) (by decide)⟩
        | 13,Z =>
         obtain rfl:=ya Z
         have hn:x[13]? = some false:=xy
         have g0:f 0 = u11:=zQ (K.c hn 0 (ye D 0 rfl)) rfl rfl
         obtain ⟨qm,ua,ky,_,hr12⟩:=cx_sp (d:=3) (K.c hn 12 (ye D 12 rfl)) rfl
         have ji:x[14]? = some false:=zw xo 12 13 14 (by kernel_rfl) hx (by simp) xy
         have xV:=K.b hn
         have hEV:=zG (U HE) xV
         have hLV:=zk (U HL) xV
         have hOV:=zk (U HO) xV
         have hBV:=(U kQ).trans (xV.mono (U kQ).size)
         have hsV:=yN hs4 xV.size
         rw [if_pos (by rfl)]
         refine wp_append_own V (.tmp 99) (.tmp 111) 39 rfl w4.heap.size 41 j0 _ 14 120 Tryz.underlying39 jd pO hy1 hy2 rfl (by decide) u11 evs.length (evs.flatMap Ev.vs) g0 hEV (J qm 0) 1 1 (expE o).vs ua rfl (fun j u hu=>by rw [Addr.add_mid]; exact hr12 j u hu) (one_ev (expE o)) (by unfold maxLen; omega) (by omega) hsV ?_
         intro v' w' xL ub _
         refine ⟨upd f 13 v',rfl,ry_write (U xz) hn v' ⟨?_,World.ownsRow.kept hLV ub (zA hLV hEV (by decide)),World.ownsRow.kept hOV ub (zA hOV hEV (by decide)),hBV.grown ub hBV.size (fun g hg=>yN hX4 (hEV.lt g hg).1),yN hsV ub.size⟩,ryb_write v' (U qB) ji⟩
         rw [show upd f 13 v' 13 = v' from zn _ _ _]
         show w'.ownsRow _ _ _ _ (evs ++ [expE o]).length _
         rw [yP,List.flatMap_append]
         simpa using xL
        | 14,Z =>
         obtain rfl:=ya Z
         have hn:x[13]? = some true:=D ⟨13,.data⟩ (by simp) rfl
         clear D K xo xn
         rw [if_pos (by rfl)];unfold Oper.wp;go_simp
         exact ⟨upd f 14 (f 13),by simp [upd],ry_after (U xz) 14 _ hn (by decide) (fun h=>h),ryb_lay xy⟩
        | n + 15,Z=>simp at Z
       ·rintro x xm V ⟨f,rfl,K,hA⟩ hx xP
        have xp:=zP xP hx (by kernel_rfl)
        have e14:f 14 = f 13:=hA.1 (xp 14 (by simp))
        obtain ⟨q1,q2,q3,q4,q5⟩:=K.m (xp 13 (by simp))
        rw [← e14] at q1
        have kE:=Y q1
        have HQ2:=Y q2
        have HQ3:=Y q3
        have HQ4:=Y q4
        clear K hA xp xP hx q1 q2 q3 q4 e14
        dsimp only
        generalize f 0 = w0,f 1 = w1,f 2 = w2,f 3 = w3,f 4 = w4,f 5 = w5,f 6 = w6,f 7 = w7,f 8 = w8,f 9 = w9,f 10 = ph,f 11 = w11,f 12 = w12,f 13 = w13
        generalize f 14 = w14 at kE ⊢
        go_wp2_with fail
        try dsimp only [H,I,J,M,yj,yk,yu,yv,yw,yp,yq,E]
        go_roundw
        case rel=>exact ⟨k + 1,by omega,by go_num,by rw [U HNXE]; exact U kE,by rw [U kS]; exact U HQ2,U HQ3,U HQ4,q5⟩
        case measure=>simp [intOf]; omega
      ·have hbd:(o.life == 1) = false:=by rw [xd]; exact hd
       have qf:=Y (take_no (U HKO) hd)
       have HNY:=Y (take_nd (U HKO) hd)
       clear hd
       obtain ⟨hE,hL,hO,hB9,hs4⟩:=U uu
       have hlev:(⟨8,zCm,0,0,(nd:Int),0,0⟩ :: ((l.take k).filter dyB).map expE:List Ev).length ≤ 100:=by
        have Q:((l.take k).filter dyB).length ≤ 20:=yN (List.length_filter_le _ _) (yN (List.length_take_le _ _) (by omega))
        simp only [List.length_cons,List.length_map]; omega
       have hllf:((l.take k).filter ndy).length ≤ 20:=yN (List.length_filter_le _ _) (yN (List.length_take_le _ _) (by omega))
       have HNXE:Hid ((⟨8,zCm,0,0,(nd:Int),0,0⟩ :: ((l.take (k + 1)).filter dyB).map expE:List Ev) = (⟨8,zCm,0,0,(nd:Int),0,0⟩ :: ((l.take k).filter dyB).map expE)):=by show _ = _; rw [U qf]
       have kS:=U HNY
       generalize (⟨8,zCm,0,0,(nd:Int),0,0⟩ :: ((l.take k).filter dyB).map expE:List Ev) = evs at hE hlev HNXE
       generalize (l.take k).filter ndy = LF at hL hllf kS
       have kS:=Y kS
       have HE:=Y hE
       have HL:=Y hL
       have HO:=Y hO
       have kQ:=Y hB9
       clear hE hL hO hB9 uu
       have HLA:=Y ((U HL).alloc (E (yv o.id o.side o.ticks o.left o.life o.tag).toArray 66))
       have qJ:Hid (yn wr (wr.alloc (E (yv o.id o.side o.ticks o.left o.life o.tag).toArray 66))):=ed _ _
       go_wp2_with (at_builtin; go_must (refine wpList_append_own _ rfl _ _ 29 rfl w4.heap.size 66 i0 _ 6 56 Tryz.underlying29 uE uA uC uM rfl (by decide) u12 LF.length (LF.flatMap Od.vs) rfl (U HLA) (yq wr 0) 1 1 o.vs rfl rfl (bT wr o.vs 66) (one_od o) (by unfold maxLen; omega) (by omega) (yN hs4 (U qJ).size) ?_); intro v5 w5 vz ak _; have kD:=Y vz; have qW:=Y ak; clear vz ak)
       have HN:Hid (ERow w5 w4.heap.size u11 evs∧ORow w5 w4.heap.size v5 (LF ++ [o])∧ORow w5 ty.heap.size (.slice (some (J b off)) l.length c6) l∧yn ty w5∧w4.heap.size ≤ w5.heap.size):=by
        have hEA:=zG (U HE) (U qJ)
        have hOA:=zk (U HO) (U qJ)
        have hBA:=(U kQ).trans ((U qJ).mono (U kQ).size)
        refine ⟨World.ownsRow.kept hEA (U qW) (zA hEA (U HLA) (by decide)),?_,World.ownsRow.kept hOA (U qW) (.inr fun e=>?_),hBA.grown (U qW) hBA.size (fun g hg=>yN hX4 ((U HLA).lt g hg).1),yN hs4 (yN (U qJ).size (U qW).size)⟩
        ·show w5.ownsRow _ _ _ _ (LF ++ [o]).length _
         rw [yP,List.flatMap_append]
         simpa using U kD
        ·have Q:=U hO4lt b rfl
         have N:=((U HLA).lt b e.symm).1
         omega
       clear kD qW
       go_wp2_with fail
       try dsimp only [H,I,J,M,yj,yk,yu,yv,yw,yp,yq,E]
       go_roundw
       case rel=>exact ⟨k + 1,by omega,by go_num,by rw [U HNXE]; exact (U HN).1,by rw [U kS]; exact (U HN).2.1,(U HN).2.2.1,(U HN).2.2.2.1,(U HN).2.2.2.2⟩
       case measure=>simp [intOf]; omega
     ·obtain rfl:k = l.length:=by omega
      have uv:¬ (l.length:Int) < l.length:=by omega
      obtain ⟨hE,hL,hO,hB9,hs4⟩:=U uu
      rw [yZ tg] at hE hL
      have HSL9:Hid (sL = l.filter ndy):=(U uI).2.1
      generalize l.filter ndy = LF at hL HSL9
      obtain ⟨al,cl,hv⟩:=zR hL
      subst hv
      obtain ⟨z0,z1,y0,y1,y2,y3,y4,y5,y6,y7⟩:=U xM wr hB9
      have qh:=zf (U HB).2.2.2.2.1 hB9 vU
      obtain ⟨p0,x0,f0⟩:=zc qh (j:=0) (by omega)
      obtain ⟨p1,x1,f1⟩:=zc qh (j:=1) (by omega)
      have hBW:=(U HB).2.2.2.2.2.trans (hB9.mono (U HB).2.2.2.2.2.size)
      have HWF:Hid (yn w ((wr.setCell (J (w.heap.size + 1 + 1) 0) (H next)).setCell (J (w.heap.size + 1 + 1) 1) (.slice al LF.length cl))):=(hBW.setCell (p:=(J (w.heap.size + 1 + 1) 0)) (show w.heap.size ≤ w.heap.size + 1 + 1 by omega) _).setCell (p:=(J (w.heap.size + 1 + 1) 1)) (show w.heap.size ≤ w.heap.size + 1 + 1 by omega) _
      have hS4:w.heap.size + 1 + 1 < w4.heap.size:=by omega
      have HEF:Hid (ERow ((wr.setCell (J (w.heap.size + 1 + 1) 0) (H next)).setCell (J (w.heap.size + 1 + 1) 1) (.slice al LF.length cl)) w.heap.size u11 _):=zF (cy (cy hE hS4 0 _) hS4 1 _) (by omega)
      have HLF:Hid (ORow ((wr.setCell (J (w.heap.size + 1 + 1) 0) (H next)).setCell (J (w.heap.size + 1 + 1) 1) (.slice al LF.length cl)) w.heap.size (.slice al LF.length cl) LF):=zF (bw (bw hL hS4 0 _) hS4 1 _) (by omega)
      have d0:((wr.setCell (J (w.heap.size + 1 + 1) 0) (H next)).setCell (J (w.heap.size + 1 + 1) 1) (.slice al LF.length cl)).cell? (J (w.heap.size + 1 + 1) 0) = some (H next):=(yL _ _ _ _ (zO (by decide))).trans (yM _ _ _ x0)
      have d1:((wr.setCell (J (w.heap.size + 1 + 1) 0) (H next)).setCell (J (w.heap.size + 1 + 1) 1) (.slice al LF.length cl)).cell? (J (w.heap.size + 1 + 1) 1) = some (.slice al LF.length cl):=yM _ _ _ ((yL _ _ _ _ (zO (by decide))).trans x1)
      have ow:=Y d0
      have qV:=Y d1
      clear hE hL hO hB9 uu qh hBW d0 d1 y0 y1 y2 y3 y4 y5 y6 y7
      go_wp2_with fail
      have d0:=U ow
      have d1:=U qV
      try simp only [Exit.inBlock,Exit.then]
      refine bodyPost_ret (by simp [results,Tryz.results36,go_sem,d0,d1]; try rfl) rfl ?_
      obtain ⟨rfl,-,kc⟩:=U uI
      rw [← U HND] at kc
      have kA:=U HSL9
      subst kA kc
      exact ⟨_,_,rfl,U HLF,U HEF,U HWF⟩
  ·have oa:=vf
   have qA:(rr == 0) = false:=by rw [xd]; exact vf
   have uI:Hid (sN = next∧sL = l∧sE = [⟨2,⟨kk,s,X,li,F,ii,pr,cutB O⟩,0,0,0,0,rr⟩]):=⟨by rw [U vl,if_neg (fun h=>vf h.1)],by rw [U uD,if_neg vf],by rw [U vk,if_neg vf]⟩
   skip
   exact absurd (U uz).1 oa
 rcases U vR with hs | ⟨ad,nn,cc,hs⟩
 ·simp only [Value.slice.injEq] at hs
  obtain ⟨rfl,pG,rfl⟩:=hs
  obtain rfl:=List.length_eq_zero_iff.1 pG
  obtain ⟨z0,z1,y0,y1,y2,y3,y4,y5,y6,y7⟩:=U xM ty (Below.refl _ _)
  have vG:=Y (World.ownsRow_made (base:=ty.heap.size) (e:=66) (size:=6) ty #[] 0 tg (by decide) rfl)
  have hzX:World.cell? (ty.alloc (E #[] 66)) (yq w 1) = some (.slice none 0 0):=(U xM _ (ed _ _)).2.1
  have kU:=Y HT
  clear HT hK
  go_wp2_with (at_builtin; go_must (refine wpList_append_own_none rfl _ _ 29 rfl ty.heap.size 66 i0 6 Tryz.underlying29 uE (.slice (some (yq ty 0)) 0 0) 0 [] rfl (U vG) rfl ?_))
  exact U kU _ _ _ (U vG) (ed _ _)
 ·simp only [Value.slice.injEq] at hs
  obtain ⟨rfl,rfl,rfl⟩:=hs
  obtain ⟨z0,z1,y0,y1,y2,y3,y4,y5,y6,y7⟩:=U xM ty (Below.refl _ _)
  have uN:Hid (yn ty (ty.alloc (E #[] 66))):=ed _ _
  have vG:=Y (World.ownsRow_made (base:=ty.heap.size) (e:=66) (size:=6) ty #[] 0 tg (by decide) rfl)
  have hzX:World.cell? (ty.alloc (E #[] 66)) (yq w 1) = some (.slice (some ad) l.length A):=(U xM _ (U uN)).2.1
  have uZ:Hid (∀ j u,(l.flatMap Od.vs)[j]? = some u→World.cell? (ty.alloc (E #[] 66)) (ad.add j) = some u):=rd_src (zl (U HR) ((U HB).2.2.2.2.2.trans ((U uN).mono (U HB).2.2.2.2.2.size)) tg)
  have kU:=Y HT
  clear HT hK
  go_wp2_with (at_builtin; go_must (refine wpList_append_own _ rfl _ _ 29 rfl ty.heap.size 66 i0 _ 6 56 Tryz.underlying29 uE uA uC uM rfl (by decide) (.slice (some (yq ty 0)) 0 0) 0 [] rfl (U vG) ad l.length A (l.flatMap Od.vs) rfl (by rw [zH Od.len]) (U uZ) (bd l) (by unfold maxLen; omega) (by omega) (U uN).size ?_); intro v1 w1 uY vV _; have vh:=Y uY; have jN:=Y vV; clear uY vV)
  have ah:Hid (ORow w1 ty.heap.size v1 l):=by
   show w1.ownsRow _ _ _ _ l.length _
   simpa using U vh
  obtain ⟨a6,c6,hv⟩:=zR (U ah)
  subst hv
  exact U kU _ _ _ (U ah) ((U uN).grown (U jN) (U uN).size (fun k hk=>((U vG).lt k hk).1))
end Go.Proofs.YtdliebbfcmdmaaaGreat
