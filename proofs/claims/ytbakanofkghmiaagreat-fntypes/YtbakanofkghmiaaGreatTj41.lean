/-
  Why a command is refused, by the model: proved by walking the functions.
-/
import Derived.Test.YtbakanofkghmiaaGreatTj40
set_option linter.unusedVariables false
set_option maxHeartbeats 6400000
set_option maxRecDepth 100000
namespace Go.Proofs.YtbakanofkghmiaaGreat
open Go.RowKit
theorem cD (next:Int) (vb:Value) (l:List Od) (c:Cm) (w:World) (hr:RdR Od.vs 6 w vb l) (hs:SlOk vb) (hg:GoodL l) (uD:∀ x ∈ l,x.side = 1 ∨ x.side = 2) (ht:c.g.size ≤ maxLen) :
  Calls Tryz.prog 84 #[.agg #[H next,vb],cmV c] w fun e w'=>e = .returned (H (refS next l c))∧ym w w':=by
 have HNW:=Y (fun W hW=>l04New_any next vb l c W hW hs hg uD ht)
 have HFM:=Y (fun W=>l04Form_any c W)
 have vF:=hg.len
 generalize hre:refS next l c = res
 have vM:=Y hre.symm
 generalize hnr:newR next l c = nr at HNW
 have qR:=Y hnr
 clear hg uD ht hre hnr
 obtain ⟨kk,s,ty,li,O,ii,pr,K⟩:=c
 unfold cmV at HNW HFM ⊢
 simp only at HNW HFM ⊢
 have HR:=Y hr
 have vH:=Y hs
 obtain ⟨a,E,rfl,xB,hc⟩:=hr
 have xo:∀ (k:Nat) (c:Od),l[k]? = some c→∃ b off,a = some (J b off)∧b < w.heap.size∧w.rangeAt b (off + k * 6) c.vs:=by
  intro k c hk
  obtain ⟨b,off,Q,N,h3⟩:=hc (by intro h; rw [h] at hk; simp at hk)
  exact ⟨b,off,Q,N,h3 k c hk⟩
 have HC:=Y xo
 clear xo hc xB hs
 have xy:=zf w (D #[H next,.slice a l.length E] 28)
 have xY:((w.alloc (D #[H next,.slice a l.length E] 28)).alloc (D (yv kk s ty li O ii pr K).toArray 43)).heap.size = w.heap.size + 1 + 1:=by rw [zf,xy]
 have r1:=zg w [H next,.slice a l.length E] 28
 have r2:=zg (w.alloc (D #[H next,.slice a l.length E] 28)) (yv kk s ty li O ii pr K) 43
 rw [xy] at r2
 have qg:Below (w.heap.size + 1) (w.alloc (D #[H next,.slice a l.length E] 28)) ((w.alloc (D #[H next,.slice a l.length E] 28)).alloc (D (yv kk s ty li O ii pr K).toArray 43)):=(Below.refl _ _).alloc (by rw [xy]; omega) _
 have xC:Hid (ym w ((w.alloc (D #[H next,.slice a l.length E] 28)).alloc (D (yv kk s ty li O ii pr K).toArray 43))):=(dm _ _).alloc (by rw [xy]; omega) _
 have HX:Hid (_∧_):=⟨zb r1 qg (by omega),r2⟩
 have ur:Hid (w.heap.size + 1 < ((w.alloc (D #[H next,.slice a l.length E] 28)).alloc (D (yv kk s ty li O ii pr K).toArray 43)).heap.size):=by show _ < _; omega
 clear xy xY r1 r2 qg
 go_enter Tryz.func84,Tryz.ntmps84
 refine ds fun tg xq=>?_
 go_wp2_with fail
 refine U xq _ _ ?_
 clear xq
 generalize ((w.alloc (D #[H next,.slice a l.length E] 28)).alloc (D (yv kk s ty li O ii pr K).toArray 43)) = X2 at xC HX ur ⊢
 have HX:Hid (X2.rangeAt w.heap.size 0 [H next,.slice a l.length E]∧X2.rangeAt (w.heap.size + 1) 0 (yv kk s ty li O ii pr K)):=U HX
 have k0:X2.cell? (J w.heap.size 0) = some (H next):=(U HX).1 0 _ rfl
 have k1:X2.cell? (J w.heap.size 1) = some (.slice a l.length E):=(U HX).1 1 _ rfl
 obtain ⟨o0,o1,o2,o3,o4,o5,o6,o7⟩:=yB (U HX).2
 cases bk:betB kk 1 4
 ·have HK:Hid (res = 1):=(U vM).trans (by simp [refS,bk])
  go_wp2_with (first | (go_at_call 80; refine (bZ _ _ _ _).mono ?_; rintro e w' ⟨rfl,ui⟩; rw [ui]; clear ui w'))
  go_ret
  exact ⟨zq (U HK).symm,U xC⟩
 go_wp2_with (first | (go_at_call 80; refine (bZ _ _ _ _).mono ?_; rintro e w' ⟨rfl,ui⟩; rw [ui]; clear ui w'))
 refine (U HFM _).mono ?_
 cases bf:pT ⟨kk,s,ty,li,O,ii,pr,K⟩
 ·rintro e w3 ⟨rfl,uC⟩
  have xW:=Y (dq (U xC) uC)
  have HK:Hid (res = 2):=(U vM).trans (by simp [refS,bk,bf])
  clear uC bf bk
  go_wp2_with fail
  go_ret
  exact ⟨zq (U HK).symm,U xW⟩
 rintro e w3 ⟨rfl,uC⟩
 have xW:=Y (dq (U xC) uC)
 have pG:Hid (w3.rangeAt w.heap.size 0 [H next,.slice a l.length E]∧w3.rangeAt (w.heap.size + 1) 0 (yv kk s ty li O ii pr K)):=⟨zb (U HX).1 uC (by have:=U ur; omega),zb (U HX).2 uC (U ur)⟩
 have hl3:w.heap.size + 1 < w3.heap.size:=yH (U ur) uC.size
 clear uC HX xC ur
 clear k0 k1 o0 o1 o2 o3 o4 o5 o6 o7
 have k0:w3.cell? (J w.heap.size 0) = some (H next):=(U pG).1 0 _ rfl
 have k1:w3.cell? (J w.heap.size 1) = some (.slice a l.length E):=(U pG).1 1 _ rfl
 obtain ⟨o0,o1,o2,o3,o4,o5,o6,o7⟩:=yB (U pG).2
 by_cases Q:kk = 1
 ·subst Q
  have HK:Hid (res = nr):=(U vM).trans (by rw [← U qR]; simp [refS,bk,bf])
  clear bk bf vM qR
  go_wp2_with fail
  refine (U HNW w3 (zl (U HR) (U xW) qt)).mono ?_
  rintro e w4 ⟨rfl,xz⟩
  have uk:=Y (dq (U xW) xz)
  clear xz
  go_wp2_with fail
  go_ret
  exact ⟨zq (U HK).symm,U uk⟩
 by_cases h4:kk = 4
 ·subst h4
  have HK:Hid (res = 0):=(U vM).trans (by simp [refS,bk,bf])
  clear bk bf vM qR
  go_wp2_with fail
  go_ret
  exact ⟨zq (U HK).symm,U xW⟩
 have b1:(kk == 1) = false:=by rw [xb]; exact Q
 have b4:(kk == 4) = false:=by rw [xb]; exact h4
 by_cases h3:kk = 3
 ·subst h3
  cases bq:betB O 1 1000000
  ·have HK:Hid (res = 7):=(U vM).trans (by simp [refS,bk,bf,bq])
   clear bk bf vM qR
   go_wp2_with (first | (go_at_call 80; refine (bZ _ _ _ _).mono ?_; rintro e w' ⟨rfl,ui⟩; rw [ui]; clear ui w'))
   go_ret
   exact ⟨zq (U HK).symm,U xW⟩
  have pE:Hid (res = if plc l ii < 0 then 9 else match l[(plc l ii).toNat]? with | some o=>if o.left ≤ O then 10 else 0 | none=>0):=(U vM).trans (by simp [refS,bk,bf,bq]; cases l[(plc l ii).toNat]? <;> rfl)
  clear bk bf vM qR Q h4
  go_wp2_with (first | (go_at_call 80; refine (bZ _ _ _ _).mono ?_; rintro e w' ⟨rfl,ui⟩; rw [ui]; clear ui w'))
  refine (bX _ l ii w3 (zl (U HR) (U xW) qt)).mono ?_
  rintro e w4 ⟨rfl,xz⟩
  have uk:=Y (dq (U xW) xz)
  have xP:Hid (w4.rangeAt w.heap.size 0 [H next,.slice a l.length E]∧w4.rangeAt (w.heap.size + 1) 0 (yv 3 s ty li O ii pr K)):=⟨zb (U pG).1 xz (by omega),zb (U pG).2 xz hl3⟩
  clear xz
  clear k0 k1 o0 o1 o2 o3 o4 o5 o6 o7
  have k0:w4.cell? (J w.heap.size 0) = some (H next):=(U xP).1 0 _ rfl
  have k1:w4.cell? (J w.heap.size 1) = some (.slice a l.length E):=(U xP).1 1 _ rfl
  obtain ⟨o0,o1,o2,o3,o4,o5,o6,o7⟩:=yB (U xP).2
  rcases cj l ii with e | ⟨k,o,e,Z⟩
  ·have HK:Hid (res = 9):=(U pE).trans (by rw [e]; rfl)
   rw [e]
   clear e
   go_wp2_with fail
   go_ret
   exact ⟨zq (U HK).symm,U uk⟩
  ·have pE:Hid (res = if o.left ≤ O then 10 else 0):=(U pE).trans (by rw [e,if_neg (by omega)]; simp [Z])
   obtain ⟨b,off,rfl,F,L⟩:=U HC k o Z
   have kc:=(yE.1 Z).1
   have c3:w4.cell? (J b (off + k * 6 + 3)) = some (H o.left):=zb L (U uk) F 3 _ rfl
   have kF:(k:Int) < l.length:=by omega
   have hk0:(0:Int) ≤ k:=by omega
   have hkn:¬ (k:Int) < 0:=by omega
   rw [e]
   clear e Z L F kc
   by_cases hq:o.left ≤ O
   ·have HK:Hid (res = 10):=(U pE).trans (if_pos hq)
    have hq':decide (o.left ≤ O) = true:=by simpa using hq
    go_wp2_with fail
    go_quiet (fail)
    go_wp2_with fail
    go_ret
    exact ⟨zq (U HK).symm,bI (U uk) _⟩
   ·have HK:Hid (res = 0):=(U pE).trans (if_neg hq)
    have hq':decide (o.left ≤ O) = false:=by simpa using hq
    go_wp2_with fail
    go_quiet (fail)
    go_wp2_with fail
    go_ret
    exact ⟨zq (U HK).symm,bI (U uk) _⟩
 ·have b3:(kk == 3) = false:=by rw [xb]; exact h3
  have pE:Hid (res = if plc l ii < 0 then 9 else 0):=(U vM).trans (by
   have hx:¬ (kk = 3∧betB O 1 1000000 = false):=fun h=>h3 h.1
   have hy:∀ o:Od,¬ (kk = 3∧o.left ≤ O):=fun o h=>h3 h.1
   simp only [refS]
   rw [if_neg (by rw [bk]; simp),if_neg (by rw [bf]; simp),if_neg Q,if_neg h4,if_neg hx]
   by_cases hp:plc l ii < 0
   ·rw [if_pos hp,if_pos hp]
   ·rw [if_neg hp,if_neg hp]
    cases l[(plc l ii).toNat]? with
    | none=>rfl
    | some o=>exact if_neg (hy o))
  clear bk bf vM qR Q h4 h3
  go_wp2_with fail
  refine (bX _ l ii w3 (zl (U HR) (U xW) qt)).mono ?_
  rintro e w4 ⟨rfl,xz⟩
  have uk:=Y (dq (U xW) xz)
  have xP:Hid (w4.rangeAt w.heap.size 0 [H next,.slice a l.length E]∧w4.rangeAt (w.heap.size + 1) 0 (yv kk s ty li O ii pr K)):=⟨zb (U pG).1 xz (by omega),zb (U pG).2 xz hl3⟩
  clear xz
  clear k0 k1 o0 o1 o2 o3 o4 o5 o6 o7
  have k0:w4.cell? (J w.heap.size 0) = some (H next):=(U xP).1 0 _ rfl
  have k1:w4.cell? (J w.heap.size 1) = some (.slice a l.length E):=(U xP).1 1 _ rfl
  obtain ⟨o0,o1,o2,o3,o4,o5,o6,o7⟩:=yB (U xP).2
  by_cases hp:plc l ii < 0
  ·have HK:Hid (res = 9):=(U pE).trans (if_pos hp)
   go_wp2_with fail
   go_ret
   exact ⟨zq (U HK).symm,U uk⟩
  ·have HK:Hid (res = 0):=(U pE).trans (if_neg hp)
   have hp':decide (plc l ii < 0) = false:=by simpa using hp
   go_wp2_with fail
   go_quiet (fail)
   go_wp2_with fail
   go_ret
   exact ⟨zq (U HK).symm,bI (U uk) _⟩
def C7o (b off n E i:Nat):Nat→Value→Prop
 | 1,v=>v = .slice (some (J b off)) n E
 | 2,v=>v = H i
 | 3,v=>v = .slice (some (J b off)) i E
 | 5,v=>v = .slice (some (J b off)) n E
 | 6,v=>v = H i
 | 7,v=>v = H ((i:Int) + 1)
 | 8,v=>∃ ad c,v = .slice (some ad) (n - (i + 1)) c∧(i + 1 < n→ad = (J b (off + (i + 1) * 6)))
 | _,_=>True
theorem l04Drop_any (b off E:Nat) (l:List Od) (i:Nat) (w:World) (hc:∀ j c,l[j]? = some c→w.rangeAt b (off + j * 6) c.vs) (F:b < w.heap.size) (hil:i < l.length) (vO:l.length ≤ E) (hn:l.length ≤ 1000) :
  Calls Tryz.prog 87 #[.slice (some (J b off)) l.length E,H i] w fun e w'=>∃ v',e = .returned v'∧ORow w' w.heap.size v' (l.take i ++ l.drop (i + 1))∧ym w w':=by
 obtain ⟨i0,uz,uA,uF,uR⟩:=info_parts Tryz.infoOrder
 have HC:=Y hc
 clear hc
 have hicp:i ≤ E:=by omega
 have oI:i + 1 ≤ l.length:=by omega
 have hi1':(i:Int) + 1 ≤ l.length:=by omega
 have qe:(i:Int) < l.length:=by omega
 have hige:(0:Int) ≤ i:=by omega
 have hlcp:(l.length:Int) ≤ E:=by omega
 have h0i:(0:Int) ≤ (i:Int) + 1:=by omega
 go_enter Tryz.func87,Tryz.ntmps87
 go_wp2_with fail
 refine cE (R7A (.slice none 0 0) w (C7o b off l.length E i) (l.take i) (l.take i ++ l.drop (i + 1)) (fun f=>{ tmps:=#[.slice (some (J b off)) l.length E,H i,M,M,f 10,f 0,f 1,f 2,f 3,f 4,f 5,f 6,f 7,f 8,f 9],defers:=[] })) (by kernel_rfl) ?_ ?_ ?_
 ·exact ⟨fun j=>if j = 10 then .slice none 0 0 else M,rfl,⟨⟨rfl,rfl,rfl,Nat.le_refl _,fun _ _=>rfl⟩,fun j R=>by rw [yG] at R; split at R <;> simp at R,fun _=>rfl,by simp,by simp,by simp,by simp,by simp,by simp,by simp⟩⟩
 ·rintro x hR V ⟨f,rfl,A⟩ hx xM
  have xn:=zS xM hx (acyc _ (by kernel_rfl))
  have k9:x[9]? = some true:=xn 9 (by simp)
  have k10:x[10]? = some true:=xn 10 (by simp)
  have HO9:=Y (A.m9 k9)
  have kY:f 10 = f 9:=A.m10 k10
  have xr:=Y A.bel
  simp only [kY]
  generalize f 9 = v9 at HO9 ⊢
  clear A xn k9 k10 kY xM hx
  go_wp2_with fail
  go_ret
  exact ⟨_,rfl,U HO9,U xr⟩
 ·rintro x hR V i' o' ⟨f,rfl,A⟩ hx Z xu G
  have qj:=Y A
  match i',Z with
  | 0,Z =>
   obtain rfl:=ya Z
   clear A G
   rw [if_pos (by rfl)];unfold Oper.wp;go_simp
   exact ⟨upd f 0 (.slice (some (J V.heap.size 0)) 0 0),by simp [upd],r7_0 (U qj) xu (fun _=>trivial)⟩
  | 1,Z =>
   obtain rfl:=ya Z
   clear A G
   rw [if_pos (by rfl)];unfold Oper.wp;go_simp
   exact ⟨upd f 1 (.slice (some (J b off)) l.length E),by simp [upd],ay (U qj) 1 _ rfl (by decide) (by decide) (by decide) (by decide)⟩
  | 2,Z =>
   obtain rfl:=ya Z
   clear A G
   rw [if_pos (by rfl)];unfold Oper.wp;go_simp
   exact ⟨upd f 2 (H i),by simp [upd],ay (U qj) 2 _ rfl (by decide) (by decide) (by decide) (by decide)⟩
  | 3,Z =>
   obtain rfl:=ya Z
   have g1:C7o b off l.length E i 1 (f 1):=A.c 1 (yd G 1 rfl)
   have g2:C7o b off l.length E i 2 (f 2):=A.c 2 (yd G 2 rfl)
   simp only [C7o] at g1 g2
   clear A G
   rw [if_pos (by rfl)];unfold Oper.wp;go_simp
   exact ⟨upd f 3 (.slice (some (J b off)) i E),by simp [upd,g1,g2],ay (U qj) 3 _ rfl (by decide) (by decide) (by decide) (by decide)⟩
  | 4,Z =>
   obtain rfl:=ya Z
   have g3:C7o b off l.length E i 3 (f 3):=A.c 3 (yd G 3 rfl)
   have k0:x[0]? = some true:=G ⟨0,.data⟩ (by simp) rfl
   have jV:Hid (∀ j c,l[j]? = some c→V.rangeAt b (off + j * 6) c.vs):=fun j c R=>zb (U HC j c R) A.bel F
   simp only [C7o] at g3
   clear A G
   rw [if_pos (by rfl)]
   refine wp_append_own V (.tmp 5) (.tmp 8) 26 rfl w.heap.size 49 i0 _ 6 56 Tryz.underlying26 uz uA uF uR rfl (by decide) (f 0) 0 [] rfl ((U qj).m0 k0 xu) (J b off) i E ((l.take i).flatMap Od.vs) g3 (by rw [zH Od.len,List.length_take]; congr 1; omega) (by simpa using bK (W:=V) (g:=b) (off:=off) (l:=l) (U jV) 0 i) (aA _) (by unfold maxLen; omega) (by omega) (U qj).bel.size ?_
   intro v' w' xK uh _
   refine ⟨upd f 4 v',rfl,r7_4 (U qj) k0 xu (fun _=>trivial) ?_ uh⟩
   have xB:(l.take i).length = 0 + i:=by rw [List.length_take]; omega
   show w'.ownsRow _ _ _ _ (l.take i).length _
   rw [xB]; simpa using xK
  | 5,Z =>
   obtain rfl:=ya Z
   clear A G
   rw [if_pos (by rfl)];unfold Oper.wp;go_simp
   exact ⟨upd f 5 (.slice (some (J b off)) l.length E),by simp [upd],ay (U qj) 5 _ rfl (by decide) (by decide) (by decide) (by decide)⟩
  | 6,Z =>
   obtain rfl:=ya Z
   clear A G
   rw [if_pos (by rfl)];unfold Oper.wp;go_simp
   exact ⟨upd f 6 (H i),by simp [upd],ay (U qj) 6 _ rfl (by decide) (by decide) (by decide) (by decide)⟩
  | 7,Z =>
   obtain rfl:=ya Z
   have g6:C7o b off l.length E i 6 (f 6):=A.c 6 (yd G 6 rfl)
   simp only [C7o] at g6
   have hwr:IntKind.i64.wrap ((i:Int) + 1) = (i:Int) + 1:=by rw [IntKind.wrap_i64]; omega
   clear A G
   rw [if_pos (by rfl)];unfold Oper.wp;go_simp
   exact ⟨upd f 7 (H ((i:Int) + 1)),by simp [upd,g6],ay (U qj) 7 _ rfl (by decide) (by decide) (by decide) (by decide)⟩
  | 8,Z =>
   obtain rfl:=ya Z
   have g5:C7o b off l.length E i 5 (f 5):=A.c 5 (yd G 5 rfl)
   have g7:C7o b off l.length E i 7 (f 7):=A.c 7 (yd G 7 rfl)
   simp only [C7o] at g5 g7
   clear A G
   by_cases hcp:E = i + 1
   ·subst hcp
    rw [if_pos (by rfl)];unfold Oper.wp;go_simp
    exact ⟨upd f 8 (.slice (some (J b off)) (l.length - (i + 1)) 0),by simp [upd,g5,g7]; omega,ay (U qj) 8 _ ⟨_,_,rfl,fun h=>by omega⟩ (by decide) (by decide) (by decide) (by decide)⟩
   ·rw [if_pos (by rfl)];unfold Oper.wp;go_simp
    exact ⟨upd f 8 (.slice (some (J b (off + (i + 1) * 6))) (l.length - (i + 1)) (E - (i + 1))),by simp [upd,g5,g7],ay (U qj) 8 _ ⟨_,_,rfl,fun h=>rfl⟩ (by decide) (by decide) (by decide) (by decide)⟩
  | 9,Z =>
   obtain rfl:=ya Z
   have g8:C7o b off l.length E i 8 (f 8):=A.c 8 (yd G 8 rfl)
   have k4:x[4]? = some true:=G ⟨4,.data⟩ (by simp) rfl
   have jV:Hid (∀ j c,l[j]? = some c→V.rangeAt b (off + j * 6) c.vs):=fun j c R=>zb (U HC j c R) A.bel F
   obtain ⟨ad8,c8,g8,had⟩:=g8
   clear A G
   have hsrc8:∀ j u,((l.drop (i + 1)).flatMap Od.vs)[j]? = some u→V.cell? (ad8.add j) = some u:=by
    intro j u hu
    by_cases xH:i + 1 < l.length
    ·rw [had xH]
     have:=bK (W:=V) (g:=b) (off:=off) (l:=l) (U jV) (i + 1) (l.length - (i + 1)) j u (by rw [yX (by simp)]; exact hu)
     simpa using this
    ·rw [yY (by omega)] at hu; simp at hu
   rw [if_pos (by rfl)]
   refine wp_append_own V (.tmp 9) (.tmp 13) 26 rfl w.heap.size 49 i0 _ 6 56 Tryz.underlying26 uz uA uF uR rfl (by decide) (f 4) (l.take i).length ((l.take i).flatMap Od.vs) rfl ((U qj).m4 k4 xu) ad8 (l.length - (i + 1)) c8 ((l.drop (i + 1)).flatMap Od.vs) g8 (by rw [zH Od.len,List.length_drop]) hsrc8 (aA _) (by unfold maxLen; rw [List.length_take]; omega) (by rw [List.length_take]; omega) (U qj).bel.size ?_
   intro v' w' xK uh _
   refine ⟨upd f 9 v',rfl,r7_9 (U qj) k4 xu (fun _=>trivial) ?_ uh⟩
   show w'.ownsRow _ _ _ _ (l.take i ++ l.drop (i + 1)).length _
   rw [yN,List.length_drop,List.flatMap_append]
   exact xK
  | 10,Z =>
   obtain rfl:=ya Z
   have hA:∀ j,j < 10→x[j]? = some true:=fun j R=>G ⟨j,.phase⟩ (by
    match j,R with
    | 0,_=>simp
    | 1,_=>simp
    | 2,_=>simp
    | 3,_=>simp
    | 4,_=>simp
    | 5,_=>simp
    | 6,_=>simp
    | 7,_=>simp
    | 8,_=>simp
    | 9,_=>simp
    | n + 10,h=>omega) rfl
   clear A G
   rw [if_pos (by rfl)];unfold Oper.wp;go_simp
   exact ⟨upd f 10 (f 9),by simp [upd],r7_10 (U qj) hA xu (fun _=>trivial)⟩
  | n + 11,Z=>simp at Z
theorem infoIn:(Tryz.prog.info? 3).map (fun i=>(i.zero,i.size,i.bytes)) = some (some (H 0),1,8):=by kernel_rfl
def dysF:List Od→Nat→List Nat
 | [],_=>[]
 | o :: r,k=>if o.life = 1 then k :: dysF r (k + 1) else dysF r (k + 1)
def dys (l:List Od):List Nat:=dysF l 0
def nval (k:Nat):Value:=H k
abbrev IRow (W:World) (B:Nat) (v:Value) (l:List Nat):Prop:=W.ownsRow B 3 1 v l.length (l.map nval)
theorem drop_getD {l:List Od} {k:Nat} {c:Od} (h:l[k]? = some c):l.drop k = c :: l.drop (k + 1):=by
 obtain ⟨Q,rfl⟩:=yE.1 h
 exact xa Q
theorem l04Days_any (v:Value) (l:List Od) (w:World) (hr:RdR Od.vs 6 w v l) (hn:l.length ≤ 1000) :
  Calls Tryz.prog 88 #[v] w fun e w'=>∃ v',e = .returned v'∧IRow w' w.heap.size v' (dys l)∧ym w w':=by
 obtain ⟨a,E,rfl,xB,hc⟩:=hr
 obtain ⟨i0,uz,uA,uF,uR⟩:=info_parts infoIn
 have xo:∀ (k:Nat) (c:Od),l[k]? = some c→∃ b off,a = some (J b off)∧b < w.heap.size∧w.rangeAt b (off + k * 6) c.vs:=by
  intro k c hk
  obtain ⟨b,off,Q,N,h3⟩:=hc (by intro h; rw [h] at hk; simp at hk)
  exact ⟨b,off,Q,N,h3 k c hk⟩
 have HC:=Y xo
 clear xo hc
 have vC:=Y (World.ownsRow_made (base:=w.heap.size) (e:=3) (size:=1) w #[] 0 qt (by decide) rfl)
 have vf:Hid (ym w (w.alloc (D #[] 3))):=dm _ _
 go_enter Tryz.func88,Tryz.ntmps88
 go_wp2_with fail
 go_loopw [3,4] (fun ov iv wr=>∃ (k:Nat) (out:List Nat),k ≤ l.length∧iv = H k∧Hid (dys l = out ++ dysF (l.drop k) k)∧out.length ≤ k∧IRow wr w.heap.size ov out∧ym w wr) (fun _ iv _=>l.length - (intOf iv).toNat)
 case atStart=>exact ⟨0,[],Nat.zero_le _,rfl,rfl,Nat.le_refl _,U vC,U vf⟩
 case round =>
  obtain ⟨k,out,hk,rfl,je,po,xK,xh⟩:=hrel
  have HB:=Y xh
  have HO:=Y xK
  have qM:=xh.size
  clear xh xK vC vf
  by_cases xH:k < l.length
  ·obtain ⟨c,uW⟩:∃ c,l[k]? = some c:=⟨_,yF xH⟩
   have HP:Hid (dys l = out ++ if c.life = 1 then k :: dysF (l.drop (k + 1)) (k + 1) else dysF (l.drop (k + 1)) (k + 1)):=by
    have:=U je
    rw [drop_getD uW] at this
    exact this
   obtain ⟨b,off,rfl,F,L⟩:=U HC k c uW
   obtain ⟨g0,g1,g2,g3,g4,g5⟩:=zC (zb L (U HB) F)
   have uu:(k:Int) < l.length:=by omega
   clear uW L F je
   by_cases qx:c.life = 1
   ·have HP1:Hid (dys l = (out ++ [k]) ++ dysF (l.drop (k + 1)) (k + 1)):=by
     have:=U HP
     rw [if_pos qx] at this
     show _ = _
     rw [this]; simp
    rw [qx] at g4
    clear HP qx
    go_wp2_with (at_builtin; go_must (refine wpList_append_own _ rfl _ _ 55 rfl w.heap.size 3 i0 _ 1 8 Tryz.underlying55 uz uA uF uR rfl (by decide) _ out.length (out.map nval) rfl ((U HO).alloc _) (J wr.heap.size 0) 1 1 [nval k] rfl rfl (aY wr _ _) (by simp [Value.oneCell',nval]) (by unfold maxLen; omega) (by omega) (by simp; omega) ?_); intro v4 w4 jd hg4 _; have kM:=Y jd; have uk:=Y (((U HB).alloc qM _).grown hg4 (by rw [zf]; omega) (fun k hk=>((U HO).lt k hk).1)); clear jd hg4)
    go_roundw
    case rel=>exact ⟨k + 1,out ++ [k],by omega,by go_num,U HP1,by simp; omega,by show World.ownsRow _ _ _ _ _ _ _; simpa using U kM,U uk⟩
    case measure=>simp [intOf]; omega
   ·have HP1:Hid (dys l = out ++ dysF (l.drop (k + 1)) (k + 1)):=by
     have:=U HP
     rw [if_neg qx] at this
     exact this
    clear HP
    go_wp2_with fail
    go_roundw
    case rel=>exact ⟨k + 1,out,by omega,by go_num,U HP1,by omega,U HO,U HB⟩
    case measure=>simp [intOf]; omega
  ·have qV:k = l.length:=by omega
   have HE:Hid (dys l = out):=by
    have:=U je
    rw [yY (by omega)] at this
    show _ = _
    rw [this]; simp [dysF]
   have hge:¬ ((k:Int) < l.length):=by omega
   clear je xH qV
   go_wp2_with fail
   go_ret
   refine ⟨_,rfl,?_,U HB⟩
   rw [U HE]
   exact U HO
theorem specCut_any (s:ByteArray) (w:World) (hs:s.size ≤ maxLen) :
  Calls Tryz.prog 134 #[yj s] w fun e w'=>e = yl (yj (cutB s))∧w' = w:=by
 unfold maxLen at hs
 by_cases h:13 < s.size
 ·have HF:=Y (show cutB s = s.extract 0 13 from if_pos (by omega))
  have h':(13:Int) < s.size:=by omega
  go_enter Tryz.func134,Tryz.ntmps134
  go_wp2
  go_ret
  exact ⟨by rw [U HF]; rfl,rfl⟩
 ·have HF:Hid (cutB s = s):=by
   by_cases h3:s.size = 13
   ·exact cutB_one s h3
   ·exact if_neg (by omega)
  have h':(s.size:Int) ≤ 13:=by omega
  go_enter Tryz.func134,Tryz.ntmps134
  go_wp2
  go_ret
  exact ⟨by rw [U HF]; rfl,rfl⟩
theorem cC (c:Cm) (w:World) (hg:c.g.size ≤ maxLen) :
  Calls Tryz.prog 85 #[.agg (yv c.k c.s c.t c.l c.q c.i c.p c.g).toArray] w fun e w' =>
   e = yl (.agg (yv c.k c.s c.t c.l c.q c.i c.p (cutB c.g)).toArray)∧ym w w':=by
 obtain ⟨k,s,t,l,q,i,p,g⟩:=c
 have HS:=Y (fun W=>specCut_any g W hg)
 have hsf:=sfl
 simp only at *
 clear hg
 go_enter Tryz.func85,Tryz.ntmps85
 go_wp2_with (go_at_call 134; refine (U HS _).mono ?_; rintro e w' ⟨rfl,rfl⟩)
 go_returns
 refine ⟨rfl,?_⟩
 go_grown
end Go.Proofs.YtbakanofkghmiaaGreat
