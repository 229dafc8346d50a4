/-
  A command done on a book, by the model: proved by walking the function.
-/
import Derived.Test.YtbakanofkghmiaaGreatQj40
set_option linter.unusedVariables false
set_option maxHeartbeats 6400000
set_option maxRecDepth 100000
namespace Go.Proofs.YtbakanofkghmiaaGreat
open Go.RowKit
theorem l04Step_y (next:Int) (vb:Value) (l:List Od) (c:Cm) (w:World) (qY:refR next l c = 0∧c.k = 4) (hr:RdR Od.vs 6 w vb l) (hs:SlOk vb) (hg:GoodL l) (uJ:∀ x ∈ l,x.side = 1 ∨ x.side = 2) (h0:0 ≤ next) (Q:next ≤ 1000000) (ht:c.g.size ≤ maxLen) :
  Calls Tryz.prog 44 #[.agg #[H next,vb],cmV c] w fun e w'=>∃ vq vg,e = ym (.tuple #[.agg #[H (stN next l c),vq],vg])∧ORow w' w.heap.size vq (stL next l c)∧ERow w' w.heap.size vg (stE next l c)∧yn w w':=by
 obtain ⟨i0,uG,uF,uI,uT⟩:=info_parts Tryz.infoOrder
 obtain ⟨j0,jg,pT,hy1,hy2⟩:=info_parts infoEv
 have HR:=Y hr
 have vP:=Y hs
 have HG:=Y hg
 have qn:=Y ht
 have vN:=hg.len
 have uH:Hid (0 ≤ next∧next ≤ 1000000):=⟨h0,Q⟩
 have uR:=Y (fun (W:World) hW=>dH next vb l c W hW hs hg uJ ht)
 rw [ref_eq] at uR
 have HK:=Y (@cY next l c)
 have HQ:=Y (@cC next l c)
 have qM:=Y (@ref_id next l c)
 have jC:=Y (@ref_newS next l c)
 have uD:=Y qY
 clear qY
 have vk:Hid (stN next l c = if refR next l c = 0∧c.k = 1 then next + 1 else next):=rfl
 have uE:=Y (stL.eq_1 next l c)
 have vj:=Y (stE.eq_1 next l c)
 have oD:=Y (fun W=>dG c W ht)
 have qN:=Y (fun (a:Option Addr) (n A:Nat) (W:World)=>dm next a n A c W)
 have kh:=Y (fun (v:Value) (W:World) hr hs hp jp jq=>dl v l c next W hr hg hs hp jp jq)
 obtain ⟨a,A,rfl,vE,hc⟩:=hr
 obtain ⟨kk,s,F,li,L,ii,pr,O⟩:=c
 generalize stN next l ⟨kk,s,F,li,L,ii,pr,O⟩ = sN at vk ⊢
 generalize stL next l ⟨kk,s,F,li,L,ii,pr,O⟩ = sL at uE ⊢
 generalize stE next l ⟨kk,s,F,li,L,ii,pr,O⟩ = sE at vj ⊢
 generalize refR next l ⟨kk,s,F,li,L,ii,pr,O⟩ = rr at uR vk uE vj HK HQ qM jC uD
 unfold cmV at uR qN ⊢
 simp only at uR vk uE vj HK HQ qM jC oD qN kh qn uD ⊢
 have HB:=Y (box3 w [H next,.slice a l.length A] (yx kk s F li L ii pr O) [H 0,.slice none 0 0] 28 43 28)
 clear hs hg uJ h0 Q ht hc vE
 go_enter Tryz.func44,Tryz.ntmps44
 refine eI fun hR xv=>?_
 go_wp2_with fail
 refine U xv _ _ ?_
 clear xv
 change Hid ((((w.alloc (E #[H next,.slice a l.length A] 28)).alloc (E (yx kk s F li L ii pr O).toArray 43)).alloc (E #[H 0,.slice none 0 0] 28)).heap.size = w.heap.size + 3∧World.rangeAt (((w.alloc (E #[H next,.slice a l.length A] 28)).alloc (E (yx kk s F li L ii pr O).toArray 43)).alloc (E #[H 0,.slice none 0 0] 28)) w.heap.size 0 [H next,.slice a l.length A]∧World.rangeAt (((w.alloc (E #[H next,.slice a l.length A] 28)).alloc (E (yx kk s F li L ii pr O).toArray 43)).alloc (E #[H 0,.slice none 0 0] 28)) (w.heap.size + 1) 0 (yx kk s F li L ii pr O)∧World.rangeAt (((w.alloc (E #[H next,.slice a l.length A] 28)).alloc (E (yx kk s F li L ii pr O).toArray 43)).alloc (E #[H 0,.slice none 0 0] 28)) (w.heap.size + 1 + 1) 0 [H 0,.slice none 0 0]∧World.there (((w.alloc (E #[H next,.slice a l.length A] 28)).alloc (E (yx kk s F li L ii pr O).toArray 43)).alloc (E #[H 0,.slice none 0 0] 28)) (w.heap.size + 1 + 1) 0 2∧yn w (((w.alloc (E #[H next,.slice a l.length A] 28)).alloc (E (yx kk s F li L ii pr O).toArray 43)).alloc (E #[H 0,.slice none 0 0] 28))) at HB
 generalize (((w.alloc (E #[H next,.slice a l.length A] 28)).alloc (E (yx kk s F li L ii pr O).toArray 43)).alloc (E #[H 0,.slice none 0 0] 28)) = hb at HB ⊢
 have xM:Hid (∀ W:World,yn hb W→W.cell? (yq w 0) = some (H next)∧W.cell? (yq w 1) = some (.slice a l.length A)∧W.cell? (J (w.heap.size + 1) 0) = some (H kk)∧W.cell? (J (w.heap.size + 1) 1) = some (H s)∧W.cell? (J (w.heap.size + 1) 2) = some (H F)∧W.cell? (J (w.heap.size + 1) 3) = some (H li)∧W.cell? (J (w.heap.size + 1) 4) = some (H L)∧W.cell? (J (w.heap.size + 1) 5) = some (H ii)∧W.cell? (J (w.heap.size + 1) 6) = some (yj pr)∧W.cell? (J (w.heap.size + 1) 7) = some (yk O)):=fun W hW =>
  have p:=zb (U HB).2.1 hW (by have:=(U HB).1; omega)
  have q:=zb (U HB).2.2.1 hW (by have:=(U HB).1; omega)
  ⟨p 0 _ rfl,p 1 _ rfl,q 0 _ rfl,q 1 _ rfl,q 2 _ rfl,q 3 _ rfl,q 4 _ rfl,q 5 _ rfl,q 6 _ rfl,q 7 _ rfl⟩
 have vS:w.heap.size + 1 + 1 < hb.heap.size:=by have:=(U HB).1; omega
 refine wp_seq_k fun hR hK=>?_
 have HT:∀ (a6:Option Addr) (c6:Nat) (w1:World),ORow w1 hb.heap.size (.slice a6 l.length c6) l→yn hb w1→hR { tmps:=#[.agg #[H next,.slice a l.length A],.agg (yx kk s F li L ii pr O).toArray,yp w 0,I (w.heap.size + 1) 0,I (w.heap.size + 1 + 1) 0,.slice none 0 0,.slice a6 l.length c6,M,M,M,M,M,M,M,M,M,M,M,.slice (some (yq hb 0)) 0 0,yp w 1,.slice a l.length A,.slice a6 l.length c6,M,M,M,M,M,M,M,M,M,M,M,M,M,M,M,M,M,M,M,M,M,M,M,M,M,M,M,M,M,M,M,M,M,M,M,M,M,M,M,M,M,M,M,M,M,M,M,M,M,M,M,M,M,M,M,M,M,M,M,M,M,M,M,M,M,M,M,M,M,M,M,M,M,M,M,M,M,M,M,M,M,M,M,M,M,M,M,M,M,M,M,M,M,M,M,M,M,M,M,M,M,M,M,M,M,M,M,M,M,M,M,M,M,M,M,M,M,M,M,M,M,M,M,M,M,M,M,M,M,M,M,M,M,M,M,M,M,M,M,M,M,M,M,M,M,M,M,M,M],defers:=[] } w1:=by
  intro a6 c6 w1 vZ xV
  refine hK _ _ ?_
  clear hK
  have vn:=Y vZ
  have xU:=Y xV
  clear vZ xV
  obtain ⟨z0,z1,y0,y1,y2,y3,y4,y5,y6,y7⟩:=U xM w1 (U xU)
  refine eI fun hR xv=>?_
  go_wp2_with fail
  refine (U uR w1 (zn (U HR) ((U HB).2.2.2.2.2.trans ((U xU).mono (U HB).2.2.2.2.2.size)) tg)).mono ?_
  rintro e w2 ⟨rfl,xX⟩
  have vU:=Y (zm (U vn) xX)
  have xE:=Y (eH (U xU) xX)
  clear z0 z1 y0 y1 y2 y3 y4 y5 y6 y7 xX vn
  obtain ⟨z0,z1,y0,y1,y2,y3,y4,y5,y6,y7⟩:=U xM w2 (U xE)
  have vV:=Y (zg (U HB).2.2.2.2.1 (U xE) vS)
  have oI:w.heap.size + 1 + 1 < w2.heap.size:=yK vS (U xE).size
  have xK:=Y ((U HB).2.2.2.2.2.trans ((U xE).mono (U HB).2.2.2.2.2.size))
  have hXw:w.heap.size ≤ hb.heap.size:=by omega
  have hX2:hb.heap.size ≤ w2.heap.size:=(U xE).size
  have oq:=hX2
  by_cases vi:rr = 0
  ·subst vi
   have pK:=U HK rfl
   rcases pK with rfl | rfl | rfl | rfl
   ·exact absurd (U uD).2 (by decide)
   ·exact absurd (U uD).2 (by decide)
   ·exact absurd (U uD).2 (by decide)
   ·have uK:Hid (sN = next∧sL = l.filter ndy∧sE = ⟨8,zCm,0,0,((l.filter dyB).length:Nat),0,0⟩ :: (l.filter dyB).map expE):=⟨by rw [U vk,if_neg (fun h=>by have:=h.2; omega)],by rw [U uE,if_pos rfl,if_neg (by omega),if_neg (by omega),if_neg (by omega)],by rw [U vj,if_pos rfl,if_neg (by omega),if_neg (by omega),if_neg (by omega)]⟩
    clear vk uE vj HQ qM HK jC qN kh oD
    go_wp2_with fail
    refine U xv _ _ ?_
    clear xv
    go_wp2_with fail
    refine (dn _ l ii w2 (zN (U vU) (by omega))).mono ?_
    generalize plc l ii = pk
    rintro e w3 ⟨rfl,um⟩
    have qA:=Y (zm (U vU) um)
    have xQ:=Y (eH (U xE) um)
    clear um z0 z1 y0 y1 y2 y3 y4 y5 y6 y7 vV xK oI oq
    have vV:=Y (zg (U HB).2.2.2.2.1 (U xQ) vS)
    have oI:w.heap.size + 1 + 1 < w3.heap.size:=yK vS (U xQ).size
    have xK:=Y ((U HB).2.2.2.2.2.trans ((U xQ).mono (U HB).2.2.2.2.2.size))
    have oq:hb.heap.size ≤ w3.heap.size:=(U xQ).size
    obtain ⟨z0,z1,y0,y1,y2,y3,y4,y5,y6,y7⟩:=U xM w3 (U xQ)
    go_wp2_with fail
    refine (l04Days_any _ l w3 (zN (U qA) (by omega)) (by omega)).mono ?_
    rintro e w4 ⟨v4,rfl,hI4,xD⟩
    obtain ⟨ad,cd,hv4⟩:=zU hI4
    subst hv4
    have hnd0:(dys l).length = (l.filter dyB).length:=dysF_len l 0
    clear hI4
    generalize (dys l).length = nd at hnd0 ⊢
    have HND:=Y hnd0
    have hnd20:nd ≤ 20:=by rw [hnd0]; exact yO (List.length_filter_le _ _) vN
    clear hnd0
    have kD:=Y (zm (U qA) xD)
    have ud:=Y (eH (U xQ) xD)
    clear xD z0 z1 y0 y1 y2 y3 y4 y5 y6 y7
    have hsE:=zh w4 (E (yv 8 0 0 0 0 0 0 0 ⟨#[]⟩ 0 0 nd 0 0).toArray 46)
    have hbE:yn w4 ((w4.alloc (E (yv 8 0 0 0 0 0 0 0 ⟨#[]⟩ 0 0 nd 0 0).toArray 46)).alloc (E #[] 49)):=(eE _ _).alloc (by rw [hsE]; omega) _
    have qc:Hid (ERow ((w4.alloc (E (yv 8 0 0 0 0 0 0 0 ⟨#[]⟩ 0 0 nd 0 0).toArray 46)).alloc (E #[] 49)) w4.heap.size (.slice (some (yq w4 0)) 1 1) [⟨8,zCm,0,0,(nd:Int),0,0⟩]):=(eRow_one w4 ⟨8,zCm,0,0,(nd:Int),0,0⟩ tg).alloc _
    have HL5:Hid (ORow ((w4.alloc (E (yv 8 0 0 0 0 0 0 0 ⟨#[]⟩ 0 0 nd 0 0).toArray 46)).alloc (E #[] 49)) w4.heap.size (.slice (some (J (w4.heap.size + 1) 0)) 0 0) []):=by have:=World.ownsRow_made (base:=w4.heap.size) (e:=49) (size:=6) (w4.alloc (E (yv 8 0 0 0 0 0 0 0 ⟨#[]⟩ 0 0 nd 0 0).toArray 46)) #[] 0 (by rw [hsE]; omega) (by decide) rfl; rw [hsE] at this; exact this
    have pw:=Y (zm (U kD) hbE)
    have jA:=Y (eH (U ud) hbE)
    have h45:w4.heap.size ≤ ((w4.alloc (E (yv 8 0 0 0 0 0 0 0 ⟨#[]⟩ 0 0 nd 0 0).toArray 46)).alloc (E #[] 49)).heap.size:=hbE.size
    have hX4:hb.heap.size ≤ w4.heap.size:=(U ud).size
    have hO4lt:Hid (∀ g,(Value.slice a6 l.length c6).ownBlock = some g→g < w4.heap.size):=fun g hg=>((U kD).lt g hg).2
    clear hsE hbE
    have hsf:=sfl
    go_wp2_with fail
    generalize ((w4.alloc (E (yv 8 0 0 0 0 0 0 0 ⟨#[]⟩ 0 0 nd 0 0).toArray 46)).alloc (E #[] 49)) = W5 at qc HL5 pw jA h45 ⊢
    go_loopw [11,12,13] (fun evv lfv iv wr=>∃ (k:Nat),k ≤ l.length∧iv = H k∧Hid (ERow wr w4.heap.size evv (⟨8,zCm,0,0,(nd:Int),0,0⟩ :: ((l.take k).filter dyB).map expE)∧ORow wr w4.heap.size lfv ((l.take k).filter ndy)∧ORow wr hb.heap.size (.slice a6 l.length c6) l∧yn hb wr∧w4.heap.size ≤ wr.heap.size)) (fun _ _ iv _=>l.length - (intOf iv).toNat)
    case atStart=>exact ⟨0,Nat.zero_le _,rfl,U qc,U HL5,U pw,U jA,h45⟩
    case round =>
     obtain ⟨k,hk,rfl,ux⟩:=hrel
     by_cases xL:k < l.length
     ·obtain ⟨o,hko⟩:∃ o,l[k]? = some o:=⟨_,yI xL⟩
      obtain ⟨a',c',e1,_,xp⟩:=zN (U ux).2.2.1 (by omega)
      obtain ⟨b,off,e2,X,xp⟩:=xp (by rintro rfl; simp at hko)
      simp only [Value.slice.injEq] at e1
      obtain ⟨e1,-,-⟩:=e1
      rw [e2] at e1
      subst e1
      have ko:=Y (xp k o hko)
      obtain ⟨g0,g1,g2,g3,g4,g5⟩:=zF (xp k o hko)
      have uy:(k:Int) < l.length:=by omega
      have hk0:(0:Int) ≤ k:=by omega
      have HKO:=Y hko
      clear xp hko X e2
      by_cases hd:o.life = 1
      ·have hbd:(o.life == 1) = true:=by simpa using hd
       have vF:=Y (take_dy (U HKO) hd)
       have HNY:=Y (take_ny (U HKO) hd)
       clear hd
       go_wp2_with fail
       obtain ⟨hE,hL,hO,hB9,pl⟩:=U ux
       have hlev:(⟨8,zCm,0,0,(nd:Int),0,0⟩ :: ((l.take k).filter dyB).map expE:List Ev).length ≤ 100:=by
        have Q:((l.take k).filter dyB).length ≤ 20:=yO (List.length_filter_le _ _) (yO (List.length_take_le _ _) (by omega))
        simp only [List.length_cons,List.length_map]; omega
       have hllf:((l.take k).filter ndy).length ≤ 20:=yO (List.length_filter_le _ _) (yO (List.length_take_le _ _) (by omega))
       have HNXE:Hid ((⟨8,zCm,0,0,(nd:Int),0,0⟩ :: ((l.take (k + 1)).filter dyB).map expE:List Ev) = (⟨8,zCm,0,0,(nd:Int),0,0⟩ :: ((l.take k).filter dyB).map expE) ++ [expE o]):=by show _ = _; rw [U vF,List.map_append]; rfl
       have kT:=U HNY
       generalize (⟨8,zCm,0,0,(nd:Int),0,0⟩ :: ((l.take k).filter dyB).map expE:List Ev) = evs at hE hlev HNXE
       generalize (l.take k).filter ndy = LF at hL hllf kT
       have kT:=Y kT
       have HE:=Y hE
       have HL:=Y hL
       have HO:=Y hO
       have kR:=Y hB9
       clear hE hL hO hB9 ux
       have HG0:=Y g0
       have qh:=Y g3
       clear g0 g1 g2 g3 g4 g5
       refine zj (RYBA (fun f=>{ tmps:=#[.agg #[H next,.slice a l.length A],.agg (yx 4 s F li L ii pr O).toArray,yp w 0,I (w.heap.size + 1) 0,I (w.heap.size + 1 + 1) 0,.slice none 0 0,.slice (some (J b off)) l.length c6,H 0,H pk,M,.slice ad nd cd,f 14,u12,H k,M,M,M,M,.slice (some (yq hb 0)) 0 0,yp w 1,.slice a l.length A,.slice (some (J b off)) l.length c6,.agg #[H next,.slice a l.length A],.agg (yx 4 s F li L ii pr O).toArray,H 0,H 0,.bool false,M,M,M,M,M,M,M,M,M,.slice (some (J b off)) l.length c6,I (w.heap.size + 1) 5,H ii,H pk,I (w.heap.size + 1) 0,H 4,.bool false,.bool false,M,M,M,M,M,M,M,M,M,M,M,M,M,M,M,M,.bool false,.bool false,M,M,M,M,M,M,M,M,M,M,M,M,M,M,M,M,.bool true,.bool true,.slice (some (J b off)) l.length c6,.slice ad nd cd,.slice ad nd cd,H nd,.agg (yv 8 0 0 0 0 0 0 0 ⟨#[]⟩ 0 0 nd 0 0).toArray,.slice (some (yq w4 0)) 1 1,.slice (some (J (w4.heap.size + 1) 0)) 0 0,H k,.slice (some (J b off)) l.length c6,H l.length,.bool true,u91,u92,.slice (some (J b off)) l.length c6,H k,I b (off + k * 6),I b (off + k * 6 + 4),H o.life,.bool true,f 0,f 1,f 2,f 3,f 4,f 5,f 6,f 7,f 8,f 9,f 10,f 11,f 12,f 13,u113,u114,u115,u116,u117,u118,u119,M,M,M,M,M,M,M,M,M,M,M,M,M,M,M,M,M,M,M,M,M,M,M,M,M,M,M,M,M,M,M,M,M,M,M,M,M,M,M,M,M,M,M,M,M,M,M,M,M,M,M],defers:=[] }) (CX [u11,.slice (some (J b off)) l.length c6,H k,I b (off + k * 6),I b (off + k * 6),H o.id,.slice (some (J b off)) l.length c6,H k,I b (off + k * 6),I b (off + k * 6 + 3),H o.left,.agg (yv 9 0 0 0 0 0 0 0 ⟨#[]⟩ o.id 0 o.left 0 0).toArray,M,M,M] [(12,3)] (w4.heap.size) 0 [] ([expE o])) 13 (u11) (fun f W=>ERow W w4.heap.size (f 13) (evs ++ [expE o])∧ORow W w4.heap.size u12 LF∧ORow W hb.heap.size (.slice (some (J b off)) l.length c6) l∧yn hb W∧w4.heap.size ≤ W.heap.size) wr) (by kernel_rfl) ?_ ?_ ?_
       ·exact ⟨fun j=>([u99,u100,u101,u102,u103,u104,u105,u106,u107,u108,u109,u110,u111,u112,u11]:List Value)[j]?.getD M,rfl,ry_start (by decide),ryb_start rfl⟩
       rotate_left
       ·rintro x xn V i op ⟨f,rfl,K,hA⟩ xp hx Z xz D
        have xA:=Y K
        have qG:=Y hA
        clear hA
        have xo:x[13]? = some false→∀ (p:Addr) u,wr.cell? p = some u→V.cell? p = some u:=fun hn p u hu=>((K.b hn).cell (yL wr _ hu)).trans hu
        match i,Z with
        | 0,Z =>
         obtain rfl:=ya Z
         have hn:x[13]? = some false:=zz xp 12 0 13 (by kernel_rfl) hx (by simp) xz
         have ku:f 14 = u11:=(U qG).2 (zz xp 12 0 14 (by kernel_rfl) hx (by simp) xz)
         clear D K xp xo
         rw [if_pos (by rfl)];unfold Oper.wp;go_simp
         exact ⟨upd f 0 u11,by simp [upd,ku],zY (U xA) 0 _ hn (by decide) (zX rfl rfl),aS _ (U qG) (by decide) (by decide)⟩
        | 1,Z =>
         obtain rfl:=ya Z
         have hn:x[13]? = some false:=zz xp 12 1 13 (by kernel_rfl) hx (by simp) xz
         clear D K xp xo
         rw [if_pos (by rfl)];unfold Oper.wp;go_simp
         exact ⟨upd f 1 (.slice (some (J b off)) l.length c6),by simp [upd],zY (U xA) 1 _ hn (by decide) (zX rfl rfl),aS _ (U qG) (by decide) (by decide)⟩
        | 2,Z =>
         obtain rfl:=ya Z
         have hn:x[13]? = some false:=zz xp 12 2 13 (by kernel_rfl) hx (by simp) xz
         clear D K xp xo
         rw [if_pos (by rfl)];unfold Oper.wp;go_simp
         exact ⟨upd f 2 (H k),by simp [upd],zY (U xA) 2 _ hn (by decide) (zX rfl rfl),aS _ (U qG) (by decide) (by decide)⟩
        | 3,Z =>
         obtain rfl:=ya Z
         have hn:x[13]? = some false:=zz xp 12 3 13 (by kernel_rfl) hx (by simp) xz
         have g1:f 1 = .slice (some (J b off)) l.length c6:=zT (K.c hn 1 (ye D 1 rfl)) rfl rfl
         have g2:f 2 = H k:=zT (K.c hn 2 (ye D 2 rfl)) rfl rfl
         clear D K xp xo
         rw [if_pos (by rfl)];unfold Oper.wp;go_simp
         exact ⟨upd f 3 (I b (off + k * 6)),by simp [upd,g1,g2],zY (U xA) 3 _ hn (by decide) (zX rfl rfl),aS _ (U qG) (by decide) (by decide)⟩
        | 4,Z =>
         obtain rfl:=ya Z
         have hn:x[13]? = some false:=zz xp 12 4 13 (by kernel_rfl) hx (by simp) xz
         have g3:f 3 = I b (off + k * 6):=zT (K.c hn 3 (ye D 3 rfl)) rfl rfl
         clear D K xp xo
         rw [if_pos (by rfl)];unfold Oper.wp;go_simp
         exact ⟨upd f 4 (I b (off + k * 6)),by simp [upd,g3],zY (U xA) 4 _ hn (by decide) (zX rfl rfl),aS _ (U qG) (by decide) (by decide)⟩
        | 5,Z =>
         obtain rfl:=ya Z
         have hn:x[13]? = some false:=zz xp 12 5 13 (by kernel_rfl) hx (by simp) xz
         have g4:f 4 = I b (off + k * 6):=zT (K.c hn 4 (ye D 4 rfl)) rfl rfl
         have q0:=xo hn (J b (off + k * 6)) _ (U HG0)
         clear D K xp xo
         rw [if_pos (by rfl)];unfold Oper.wp;go_simp
         exact ⟨upd f 5 (H o.id),by simp [upd,g4],zY (U xA) 5 _ hn (by decide) (zX rfl rfl),aS _ (U qG) (by decide) (by decide)⟩
        | 6,Z =>
         obtain rfl:=ya Z
         have hn:x[13]? = some false:=zz xp 12 6 13 (by kernel_rfl) hx (by simp) xz
         clear D K xp xo
         rw [if_pos (by rfl)];unfold Oper.wp;go_simp
         exact ⟨upd f 6 (.slice (some (J b off)) l.length c6),by simp [upd],zY (U xA) 6 _ hn (by decide) (zX rfl rfl),aS _ (U qG) (by decide) (by decide)⟩
        | 7,Z =>
         obtain rfl:=ya Z
         have hn:x[13]? = some false:=zz xp 12 7 13 (by kernel_rfl) hx (by simp) xz
         clear D K xp xo
         rw [if_pos (by rfl)];unfold Oper.wp;go_simp
         exact ⟨upd f 7 (H k),by simp [upd],zY (U xA) 7 _ hn (by decide) (zX rfl rfl),aS _ (U qG) (by decide) (by decide)⟩
        | 8,Z =>
         obtain rfl:=ya Z
         have hn:x[13]? = some false:=zz xp 12 8 13 (by kernel_rfl) hx (by simp) xz
         have g6:f 6 = .slice (some (J b off)) l.length c6:=zT (K.c hn 6 (ye D 6 rfl)) rfl rfl
         have g7:f 7 = H k:=zT (K.c hn 7 (ye D 7 rfl)) rfl rfl
         clear D K xp xo
         rw [if_pos (by rfl)];unfold Oper.wp;go_simp
         exact ⟨upd f 8 (I b (off + k * 6)),by simp [upd,g6,g7],zY (U xA) 8 _ hn (by decide) (zX rfl rfl),aS _ (U qG) (by decide) (by decide)⟩
        | 9,Z =>
         obtain rfl:=ya Z
         have hn:x[13]? = some false:=zz xp 12 9 13 (by kernel_rfl) hx (by simp) xz
         have g8:f 8 = I b (off + k * 6):=zT (K.c hn 8 (ye D 8 rfl)) rfl rfl
         clear D K xp xo
         rw [if_pos (by rfl)];unfold Oper.wp;go_simp
         exact ⟨upd f 9 (I b (off + k * 6 + 3)),by simp [upd,g8],zY (U xA) 9 _ hn (by decide) (zX rfl rfl),aS _ (U qG) (by decide) (by decide)⟩
        | 10,Z =>
         obtain rfl:=ya Z
         have hn:x[13]? = some false:=zz xp 12 10 13 (by kernel_rfl) hx (by simp) xz
         have g9:f 9 = I b (off + k * 6 + 3):=zT (K.c hn 9 (ye D 9 rfl)) rfl rfl
         have q3:=xo hn (J b (off + k * 6 + 3)) _ (U qh)
         clear D K xp xo
         rw [if_pos (by rfl)];unfold Oper.wp;go_simp
         exact ⟨upd f 10 (H o.left),by simp [upd,g9],zY (U xA) 10 _ hn (by decide) (zX rfl rfl),aS _ (U qG) (by decide) (by decide)⟩
        | 11,Z =>
         obtain rfl:=ya Z
         have hn:x[13]? = some false:=zz xp 12 11 13 (by kernel_rfl) hx (by simp) xz
         have g5:f 5 = H o.id:=zT (K.c hn 5 (ye D 5 rfl)) rfl rfl
         have qx:f 10 = H o.left:=zT (K.c hn 10 (ye D 10 rfl)) rfl rfl
         clear D K xp xo
         rw [if_pos (by rfl)];unfold Oper.wp;go_simp
         exact ⟨upd f 11 (.agg (yv 9 0 0 0 0 0 0 0 ⟨#[]⟩ o.id 0 o.left 0 0).toArray),by simp [upd,g5,qx],zY (U xA) 11 _ hn (by decide) (zX rfl rfl),aS _ (U qG) (by decide) (by decide)⟩
        | 12,Z =>
         obtain rfl:=ya Z
         have hn:x[13]? = some false:=zz xp 12 12 13 (by kernel_rfl) hx (by simp) xz
         have vw:f 11 = .agg (yv 9 0 0 0 0 0 0 0 ⟨#[]⟩ o.id 0 o.left 0 0).toArray:=zT (K.c hn 11 (ye D 11 rfl)) rfl rfl
         have qX:=yO pl (K.b hn).size
         clear D K xp xo
         rw [if_pos (by rfl)];unfold Oper.wp;go_simp
         exact ⟨upd f 12 (.slice (some (yq V 0)) 1 1),by simp [upd,vw],zY (ry_grow (cx_monoB (by omega)) (U xA) hn (eE _ _)) 12 _ hn (by decide) (bR (d:=3) rfl ⟨V.heap.size,rfl,by rw [zh]; omega,qX,zi V (expE o).vs _⟩),aS _ (U qG) (by decide) (by decide)⟩
        | 13,Z =>
         obtain rfl:=ya Z
         have hn:x[13]? = some false:=xz
         have g0:f 0 = u11:=zT (K.c hn 0 (ye D 0 rfl)) rfl rfl
         obtain ⟨qe,xZ,qQ,_,hr12⟩:=cx_sp (d:=3) (K.c hn 12 (ye D 12 rfl)) rfl
         have jm:x[14]? = some false:=zz xp 12 13 14 (by kernel_rfl) hx (by simp) xz
         have xT:=K.b hn
         have hEV:=zJ (U HE) xT
         have hLV:=zm (U HL) xT
         have hOV:=zm (U HO) xT
         have hBV:=(U kR).trans (xT.mono (U kR).size)
         have hsV:=yO pl xT.size
         rw [if_pos (by rfl)]
         refine wp_append_own V (.tmp 99) (.tmp 111) 38 rfl w4.heap.size 46 j0 _ 14 120 Tryz.underlying38 jg pT hy1 hy2 rfl (by decide) u11 evs.length (evs.flatMap Ev.vs) g0 hEV (J qe 0) 1 1 (expE o).vs xZ rfl (fun j u hu=>by rw [Addr.add_mid]; exact hr12 j u hu) (one_ev (expE o)) (by unfold maxLen; omega) (by omega) hsV ?_
         intro v' w' xI uc _
         refine ⟨upd f 13 v',rfl,ry_write (U xA) hn v' ⟨?_,World.ownsRow.kept hLV uc (zD hLV hEV (by decide)),World.ownsRow.kept hOV uc (zD hOV hEV (by decide)),hBV.grown uc hBV.size (fun g hg=>yO hX4 (hEV.lt g hg).1),yO hsV uc.size⟩,ryb_write v' (U qG) jm⟩
         rw [show upd f 13 v' 13 = v' from zp _ _ _]
         show w'.ownsRow _ _ _ _ (evs ++ [expE o]).length _
         rw [yQ,List.flatMap_append]
         simpa using xI
        | 14,Z =>
         obtain rfl:=ya Z
         have hn:x[13]? = some true:=D ⟨13,.data⟩ (by simp) rfl
         clear D K xp xo
         rw [if_pos (by rfl)];unfold Oper.wp;go_simp
         exact ⟨upd f 14 (f 13),by simp [upd],ry_after (U xA) 14 _ hn (by decide) (fun h=>h),ryb_lay xz⟩
        | n + 15,Z=>simp at Z
       ·rintro x xn V ⟨f,rfl,K,hA⟩ hx xN
        have xq:=zR xN hx (by kernel_rfl)
        have e14:f 14 = f 13:=hA.1 (xq 14 (by simp))
        obtain ⟨q1,q2,q3,q4,q5⟩:=K.m (xq 13 (by simp))
        rw [← e14] at q1
        have oX:=Y q1
        have HQ2:=Y q2
        have HQ3:=Y q3
        have HQ4:=Y q4
        clear K hA xq xN hx q1 q2 q3 q4 e14
        dsimp only
        generalize f 0 = w0,f 1 = w1,f 2 = w2,f 3 = w3,f 4 = w4,f 5 = w5,f 6 = w6,f 7 = w7,f 8 = w8,f 9 = w9,f 10 = po,f 11 = w11,f 12 = w12,f 13 = w13
        generalize f 14 = w14 at oX ⊢
        go_wp2_with fail
        dsimp only [H,I,J,M,yj,yk,yv,yw,yx,yp,yq,E]
        go_roundw
        case rel=>exact ⟨k + 1,by omega,by go_num,by rw [U HNXE]; exact U oX,by rw [U kT]; exact U HQ2,U HQ3,U HQ4,q5⟩
        case measure=>simp [intOf]; omega
      ·have hbd:(o.life == 1) = false:=by rw [xe]; exact hd
       have vF:=Y (take_no (U HKO) hd)
       have HNY:=Y (take_nd (U HKO) hd)
       clear hd
       obtain ⟨hE,hL,hO,hB9,pl⟩:=U ux
       have hlev:(⟨8,zCm,0,0,(nd:Int),0,0⟩ :: ((l.take k).filter dyB).map expE:List Ev).length ≤ 100:=by
        have Q:((l.take k).filter dyB).length ≤ 20:=yO (List.length_filter_le _ _) (yO (List.length_take_le _ _) (by omega))
        simp only [List.length_cons,List.length_map]; omega
       have hllf:((l.take k).filter ndy).length ≤ 20:=yO (List.length_filter_le _ _) (yO (List.length_take_le _ _) (by omega))
       have HNXE:Hid ((⟨8,zCm,0,0,(nd:Int),0,0⟩ :: ((l.take (k + 1)).filter dyB).map expE:List Ev) = (⟨8,zCm,0,0,(nd:Int),0,0⟩ :: ((l.take k).filter dyB).map expE)):=by show _ = _; rw [U vF]
       have kT:=U HNY
       generalize (⟨8,zCm,0,0,(nd:Int),0,0⟩ :: ((l.take k).filter dyB).map expE:List Ev) = evs at hE hlev HNXE
       generalize (l.take k).filter ndy = LF at hL hllf kT
       have kT:=Y kT
       have HE:=Y hE
       have HL:=Y hL
       have HO:=Y hO
       have kR:=Y hB9
       clear hE hL hO hB9 ux
       have HLA:=Y ((U HL).alloc (E (yw o.id o.side o.ticks o.left o.life o.tag).toArray 49))
       have qm:Hid (yn wr (wr.alloc (E (yw o.id o.side o.ticks o.left o.life o.tag).toArray 49))):=eE _ _
       go_wp2_with (at_builtin; go_must (refine wpList_append_own _ rfl _ _ 26 rfl w4.heap.size 49 i0 _ 6 56 Tryz.underlying26 uG uF uI uT rfl (by decide) u12 LF.length (LF.flatMap Od.vs) rfl (U HLA) (yq wr 0) 1 1 o.vs rfl rfl (cy wr o.vs 49) (one_od o) (by unfold maxLen; omega) (by omega) (yO pl (U qm).size) ?_); intro v5 w5 vy aC _; have pw:=Y vy; have jB:=Y aC; clear vy aC)
       have HN:Hid (ERow w5 w4.heap.size u11 evs∧ORow w5 w4.heap.size v5 (LF ++ [o])∧ORow w5 hb.heap.size (.slice (some (J b off)) l.length c6) l∧yn hb w5∧w4.heap.size ≤ w5.heap.size):=by
        have hEA:=zJ (U HE) (U qm)
        have hOA:=zm (U HO) (U qm)
        have hBA:=(U kR).trans ((U qm).mono (U kR).size)
        refine ⟨World.ownsRow.kept hEA (U jB) (zD hEA (U HLA) (by decide)),?_,World.ownsRow.kept hOA (U jB) (.inr fun e=>?_),hBA.grown (U jB) hBA.size (fun g hg=>yO hX4 ((U HLA).lt g hg).1),yO pl (yO (U qm).size (U jB).size)⟩
        ·show w5.ownsRow _ _ _ _ (LF ++ [o]).length _
         rw [yQ,List.flatMap_append]
         simpa using U pw
        ·have Q:=U hO4lt b rfl
         have N:=((U HLA).lt b e.symm).1
         omega
       clear pw jB
       go_wp2_with fail
       dsimp only [H,I,J,M,yj,yk,yv,yw,yx,yp,yq,E]
       go_roundw
       case rel=>exact ⟨k + 1,by omega,by go_num,by rw [U HNXE]; exact (U HN).1,by rw [U kT]; exact (U HN).2.1,(U HN).2.2.1,(U HN).2.2.2.1,(U HN).2.2.2.2⟩
       case measure=>simp [intOf]; omega
     ·obtain rfl:k = l.length:=by omega
      have uy:¬ (l.length:Int) < l.length:=by omega
      obtain ⟨hE,hL,hO,hB9,pl⟩:=U ux
      rw [xa tg] at hE hL
      have HSL9:Hid (sL = l.filter ndy):=(U uK).2.1
      generalize l.filter ndy = LF at hL HSL9
      obtain ⟨al,cl,hv⟩:=zU hL
      subst hv
      obtain ⟨z0,z1,y0,y1,y2,y3,y4,y5,y6,y7⟩:=U xM wr hB9
      have qi:=zg (U HB).2.2.2.2.1 hB9 vS
      obtain ⟨p0,x0,f0⟩:=ze qi (j:=0) (by omega)
      obtain ⟨p1,x1,f1⟩:=ze qi (j:=1) (by omega)
      have hBW:=(U HB).2.2.2.2.2.trans (hB9.mono (U HB).2.2.2.2.2.size)
      have HWF:Hid (yn w ((wr.setCell (J (w.heap.size + 1 + 1) 0) (H next)).setCell (J (w.heap.size + 1 + 1) 1) (.slice al LF.length cl))):=(hBW.setCell (p:=(J (w.heap.size + 1 + 1) 0)) (show w.heap.size ≤ w.heap.size + 1 + 1 by omega) _).setCell (p:=(J (w.heap.size + 1 + 1) 1)) (show w.heap.size ≤ w.heap.size + 1 + 1 by omega) _
      have hS4:w.heap.size + 1 + 1 < w4.heap.size:=by omega
      have HEF:Hid (ERow ((wr.setCell (J (w.heap.size + 1 + 1) 0) (H next)).setCell (J (w.heap.size + 1 + 1) 1) (.slice al LF.length cl)) w.heap.size u11 _):=zI (cO (cO hE hS4 0 _) hS4 1 _) (by omega)
      have HLF:Hid (ORow ((wr.setCell (J (w.heap.size + 1 + 1) 0) (H next)).setCell (J (w.heap.size + 1 + 1) 1) (.slice al LF.length cl)) w.heap.size (.slice al LF.length cl) LF):=zI (bM (bM hL hS4 0 _) hS4 1 _) (by omega)
      have d0:((wr.setCell (J (w.heap.size + 1 + 1) 0) (H next)).setCell (J (w.heap.size + 1 + 1) 1) (.slice al LF.length cl)).cell? (J (w.heap.size + 1 + 1) 0) = some (H next):=(yM _ _ _ _ (zQ (by decide))).trans (yN _ _ _ x0)
      have d1:((wr.setCell (J (w.heap.size + 1 + 1) 0) (H next)).setCell (J (w.heap.size + 1 + 1) 1) (.slice al LF.length cl)).cell? (J (w.heap.size + 1 + 1) 1) = some (.slice al LF.length cl):=yN _ _ _ ((yM _ _ _ _ (zQ (by decide))).trans x1)
      have oB:=Y d0
      have qZ:=Y d1
      clear hE hL hO hB9 ux qi hBW d0 d1 y0 y1 y2 y3 y4 y5 y6 y7
      go_wp2_with fail
      have d0:=U oB
      have d1:=U qZ
      try simp only [Exit.inBlock,Exit.then]
      refine bodyPost_ret (by simp [results,Tryz.results44,go_sem,d0,d1]; try rfl) rfl ?_
      obtain ⟨rfl,-,ke⟩:=U uK
      rw [← U HND] at ke
      have kA:=U HSL9
      subst kA ke
      exact ⟨_,_,rfl,U HLF,U HEF,U HWF⟩
  ·have oa:=vi
   have qK:(rr == 0) = false:=by rw [xe]; exact vi
   have uK:Hid (sN = next∧sL = l∧sE = [⟨2,⟨kk,s,F,li,L,ii,pr,cutB O⟩,0,0,0,0,rr⟩]):=⟨by rw [U vk,if_neg (fun h=>vi h.1)],by rw [U uE,if_neg vi],by rw [U vj,if_neg vi]⟩
   skip
   exact absurd (U uD).1 oa
 rcases U vP with hs | ⟨ad,nn,cc,hs⟩
 ·simp only [Value.slice.injEq] at hs
  obtain ⟨rfl,pL,rfl⟩:=hs
  obtain rfl:=List.length_eq_zero_iff.1 pL
  obtain ⟨z0,z1,y0,y1,y2,y3,y4,y5,y6,y7⟩:=U xM hb (Below.refl _ _)
  have vI:=Y (World.ownsRow_made (base:=hb.heap.size) (e:=49) (size:=6) hb #[] 0 tg (by decide) rfl)
  have hzX:World.cell? (hb.alloc (E #[] 49)) (yq w 1) = some (.slice none 0 0):=(U xM _ (eE _ _)).2.1
  have kU:=Y HT
  clear HT hK
  go_wp2_with (at_builtin; go_must (refine wpList_append_own_none rfl _ _ 26 rfl hb.heap.size 49 i0 6 Tryz.underlying26 uG (.slice (some (yq hb 0)) 0 0) 0 [] rfl (U vI) rfl ?_))
  exact U kU _ _ _ (U vI) (eE _ _)
 ·simp only [Value.slice.injEq] at hs
  obtain ⟨rfl,rfl,rfl⟩:=hs
  obtain ⟨z0,z1,y0,y1,y2,y3,y4,y5,y6,y7⟩:=U xM hb (Below.refl _ _)
  have uQ:Hid (yn hb (hb.alloc (E #[] 49))):=eE _ _
  have vI:=Y (World.ownsRow_made (base:=hb.heap.size) (e:=49) (size:=6) hb #[] 0 tg (by decide) rfl)
  have hzX:World.cell? (hb.alloc (E #[] 49)) (yq w 1) = some (.slice (some ad) l.length A):=(U xM _ (U uQ)).2.1
  have vh:Hid (∀ j u,(l.flatMap Od.vs)[j]? = some u→World.cell? (hb.alloc (E #[] 49)) (ad.add j) = some u):=rd_src (zn (U HR) ((U HB).2.2.2.2.2.trans ((U uQ).mono (U HB).2.2.2.2.2.size)) tg)
  have kU:=Y HT
  clear HT hK
  go_wp2_with (at_builtin; go_must (refine wpList_append_own _ rfl _ _ 26 rfl hb.heap.size 49 i0 _ 6 56 Tryz.underlying26 uG uF uI uT rfl (by decide) (.slice (some (yq hb 0)) 0 0) 0 [] rfl (U vI) ad l.length A (l.flatMap Od.vs) rfl (by rw [zK Od.len]) (U vh) (bB l) (by unfold maxLen; omega) (by omega) (U uQ).size ?_); intro v1 w1 vf vT _; have vn:=Y vf; have kB:=Y vT; clear vf vT)
  have ay:Hid (ORow w1 hb.heap.size v1 l):=by
   show w1.ownsRow _ _ _ _ l.length _
   simpa using U vn
  obtain ⟨a6,c6,hv⟩:=zU (U ay)
  subst hv
  exact U kU _ _ _ (U ay) ((U uQ).grown (U kB) (U uQ).size (fun k hk=>((U vI).lt k hk).1))
end Go.Proofs.YtbakanofkghmiaaGreat
