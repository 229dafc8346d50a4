/-
  Why a command is refused, by the model: proved by walking the functions.
-/
import Derived.Test.YtbakanofkghmiaaGreatPj41
set_option linter.unusedVariables false
set_option maxHeartbeats 6400000
set_option maxRecDepth 100000
namespace Go.Proofs.YtbakanofkghmiaaGreat
open Go.RowKit
theorem okS_sides {next:Int} {l:List Od} (h:okS next l = true):∀ x ∈ l,x.side = 1 ∨ x.side = 2:=by
 simp only [okS,xb,xc] at h
 obtain ⟨⟨⟨z,K⟩,h4⟩,_⟩:=h
 intro o Y
 have:=dK h4 o Y
 simp [ordB,betB] at this
 omega
theorem dF (next:Int) (vb:Value) (l:List Od) (c:Cm) (w:World) (hr:RdR Od.vs 6 w vb l) (hs:SlOk vb) (hg:GoodL l) (uu:∀ x ∈ l,x.side = 1 ∨ x.side = 2) (ht:c.g.size ≤ maxLen) :
  Calls Tryz.prog 84 #[.agg #[H next,vb],cmV c] w fun e w'=>e = .returned (H (refS next l c))∧yl w w':=by
 have HNW:=Q (fun W hW=>l04New_any next vb l c W hW hs hg uu ht)
 have HFM:=Q (fun W=>l04Form_any c W)
 have vG:=hg.len
 generalize hre:refS next l c = res
 have qe:=Q hre.symm
 generalize hnr:newR next l c = nr at HNW
 have qR:=Q hnr
 clear hg uu ht hre hnr
 obtain ⟨kk,s,ty,li,X,ii,pr,O⟩:=c
 unfold cmV at HNW HFM ⊢
 simp only at HNW HFM ⊢
 have HR:=Q hr
 have uW:=Q hs
 obtain ⟨a,F,rfl,xD,hc⟩:=hr
 have xn:∀ (k:Nat) (c:Od),l[k]? = some c→∃ b off,a = some (J b off)∧b < w.heap.size∧w.rangeAt b (off + k * 6) c.vs:=by
  intro k c hk
  obtain ⟨b,off,z,K,h3⟩:=hc (by intro h; rw [h] at hk; simp at hk)
  exact ⟨b,off,z,K,h3 k c hk⟩
 have HC:=Q xn
 clear xn hc xD hs
 have xz:=ze w (E #[H next,.slice a l.length F] 28)
 have xY:((w.alloc (E #[H next,.slice a l.length F] 28)).alloc (E (yu kk s ty li X ii pr O).toArray 43)).heap.size = w.heap.size + 1 + 1:=by rw [ze,xz]
 have r1:=zg w [H next,.slice a l.length F] 28
 have r2:=zg (w.alloc (E #[H next,.slice a l.length F] 28)) (yu kk s ty li X ii pr O) 43
 rw [xz] at r2
 have qg:Below (w.heap.size + 1) (w.alloc (E #[H next,.slice a l.length F] 28)) ((w.alloc (E #[H next,.slice a l.length F] 28)).alloc (E (yu kk s ty li X ii pr O).toArray 43)):=(Below.refl _ _).alloc (by rw [xz]; omega) _
 have xC:Hid (yl w ((w.alloc (E #[H next,.slice a l.length F] 28)).alloc (E (yu kk s ty li X ii pr O).toArray 43))):=(eD _ _).alloc (by rw [xz]; omega) _
 have HX:Hid (_∧_):=⟨zb r1 qg (by omega),r2⟩
 have uj:Hid (w.heap.size + 1 < ((w.alloc (E #[H next,.slice a l.length F] 28)).alloc (E (yu kk s ty li X ii pr O).toArray 43)).heap.size):=by show _ < _; omega
 clear xz xY r1 r2 qg
 go_enter Tryz.func84,Tryz.ntmps84
 refine eH fun h2 xu=>?_
 go_wp2_with fail
 refine M xu _ _ ?_
 clear xu
 generalize ((w.alloc (E #[H next,.slice a l.length F] 28)).alloc (E (yu kk s ty li X ii pr O).toArray 43)) = X2 at xC HX uj ⊢
 have HX:Hid (X2.rangeAt w.heap.size 0 [H next,.slice a l.length F]∧X2.rangeAt (w.heap.size + 1) 0 (yu kk s ty li X ii pr O)):=M HX
 have k0:X2.cell? (J w.heap.size 0) = some (H next):=(M HX).1 0 _ rfl
 have k1:X2.cell? (J w.heap.size 1) = some (.slice a l.length F):=(M HX).1 1 _ rfl
 obtain ⟨o0,o1,o2,o3,o4,o5,o6,o7⟩:=yA (M HX).2
 cases bk:betB kk 1 4
 ·have HK:Hid (res = 1):=(M qe).trans (by simp [refS,bk])
  go_wp2_with (first | (go_at_call 80; refine (ba _ _ _ _).mono ?_; rintro e w' ⟨rfl,uc⟩; rw [uc]; clear uc w'))
  go_ret
  exact ⟨zv (M HK).symm,M xC⟩
 go_wp2_with (first | (go_at_call 80; refine (ba _ _ _ _).mono ?_; rintro e w' ⟨rfl,uc⟩; rw [uc]; clear uc w'))
 refine (M HFM _).mono ?_
 cases bf:aE ⟨kk,s,ty,li,X,ii,pr,O⟩
 ·rintro e w3 ⟨rfl,uf⟩
  have xM:=Q (eG (M xC) uf)
  have HK:Hid (res = 2):=(M qe).trans (by simp [refS,bk,bf])
  clear uf bf bk
  go_wp2_with fail
  go_ret
  exact ⟨zv (M HK).symm,M xM⟩
 rintro e w3 ⟨rfl,uf⟩
 have xM:=Q (eG (M xC) uf)
 have pZ:Hid (w3.rangeAt w.heap.size 0 [H next,.slice a l.length F]∧w3.rangeAt (w.heap.size + 1) 0 (yu kk s ty li X ii pr O)):=⟨zb (M HX).1 uf (by have:=M uj; omega),zb (M HX).2 uf (M uj)⟩
 have hl3:w.heap.size + 1 < w3.heap.size:=yG (M uj) uf.size
 clear uf HX xC uj
 clear k0 k1 o0 o1 o2 o3 o4 o5 o6 o7
 have k0:w3.cell? (J w.heap.size 0) = some (H next):=(M pZ).1 0 _ rfl
 have k1:w3.cell? (J w.heap.size 1) = some (.slice a l.length F):=(M pZ).1 1 _ rfl
 obtain ⟨o0,o1,o2,o3,o4,o5,o6,o7⟩:=yA (M pZ).2
 by_cases z:kk = 1
 ·subst z
  have HK:Hid (res = nr):=(M qe).trans (by rw [← M qR]; simp [refS,bk,bf])
  clear bk bf qe qR
  go_wp2_with fail
  refine (M HNW w3 (zh (M HR) (M xM) tg)).mono ?_
  rintro e w4 ⟨rfl,xy⟩
  have xS:=Q (eG (M xM) xy)
  clear xy
  go_wp2_with fail
  go_ret
  exact ⟨zv (M HK).symm,M xS⟩
 by_cases h4:kk = 4
 ·subst h4
  have HK:Hid (res = 0):=(M qe).trans (by simp [refS,bk,bf])
  clear bk bf qe qR
  go_wp2_with fail
  go_ret
  exact ⟨zv (M HK).symm,M xM⟩
 have b1:(kk == 1) = false:=by rw [xa]; exact z
 have b4:(kk == 4) = false:=by rw [xa]; exact h4
 by_cases h3:kk = 3
 ·subst h3
  cases bq:betB X 1 1000000
  ·have HK:Hid (res = 7):=(M qe).trans (by simp [refS,bk,bf,bq])
   clear bk bf qe qR
   go_wp2_with (first | (go_at_call 80; refine (ba _ _ _ _).mono ?_; rintro e w' ⟨rfl,uc⟩; rw [uc]; clear uc w'))
   go_ret
   exact ⟨zv (M HK).symm,M xM⟩
  have pW:Hid (res = if plc l ii < 0 then 9 else match l[(plc l ii).toNat]? with | some o=>if o.left ≤ X then 10 else 0 | none=>0):=(M qe).trans (by simp [refS,bk,bf,bq]; cases l[(plc l ii).toNat]? <;> rfl)
  clear bk bf qe qR z h4
  go_wp2_with (first | (go_at_call 80; refine (ba _ _ _ _).mono ?_; rintro e w' ⟨rfl,uc⟩; rw [uc]; clear uc w'))
  refine (dq _ l ii w3 (zh (M HR) (M xM) tg)).mono ?_
  rintro e w4 ⟨rfl,xy⟩
  have xS:=Q (eG (M xM) xy)
  have xQ:Hid (w4.rangeAt w.heap.size 0 [H next,.slice a l.length F]∧w4.rangeAt (w.heap.size + 1) 0 (yu 3 s ty li X ii pr O)):=⟨zb (M pZ).1 xy (by omega),zb (M pZ).2 xy hl3⟩
  clear xy
  clear k0 k1 o0 o1 o2 o3 o4 o5 o6 o7
  have k0:w4.cell? (J w.heap.size 0) = some (H next):=(M xQ).1 0 _ rfl
  have k1:w4.cell? (J w.heap.size 1) = some (.slice a l.length F):=(M xQ).1 1 _ rfl
  obtain ⟨o0,o1,o2,o3,o4,o5,o6,o7⟩:=yA (M xQ).2
  rcases du l ii with e | ⟨k,o,e,Y⟩
  ·have HK:Hid (res = 9):=(M pW).trans (by rw [e]; rfl)
   rw [e]
   clear e
   go_wp2_with fail
   go_ret
   exact ⟨zv (M HK).symm,M xS⟩
  ·have pW:Hid (res = if o.left ≤ X then 10 else 0):=(M pW).trans (by rw [e,if_neg (by omega)]; simp [Y])
   obtain ⟨b,off,rfl,hb,xk⟩:=M HC k o Y
   have jZ:=(yD.1 Y).1
   have c3:w4.cell? (J b (off + k * 6 + 3)) = some (H o.left):=zb xk (M xS) hb 3 _ rfl
   have ow:(k:Int) < l.length:=by omega
   have hk0:(0:Int) ≤ k:=by omega
   have hkn:¬ (k:Int) < 0:=by omega
   rw [e]
   clear e Y xk hb jZ
   by_cases hq:o.left ≤ X
   ·have HK:Hid (res = 10):=(M pW).trans (if_pos hq)
    have hq':decide (o.left ≤ X) = true:=by simpa using hq
    go_wp2_with fail
    go_quiet (fail)
    go_wp2_with fail
    go_ret
    exact ⟨zv (M HK).symm,cH (M xS) _⟩
   ·have HK:Hid (res = 0):=(M pW).trans (if_neg hq)
    have hq':decide (o.left ≤ X) = false:=by simpa using hq
    go_wp2_with fail
    go_quiet (fail)
    go_wp2_with fail
    go_ret
    exact ⟨zv (M HK).symm,cH (M xS) _⟩
 ·have b3:(kk == 3) = false:=by rw [xa]; exact h3
  have pW:Hid (res = if plc l ii < 0 then 9 else 0):=(M qe).trans (by
   have hx:¬ (kk = 3∧betB X 1 1000000 = false):=fun h=>h3 h.1
   have hy:∀ o:Od,¬ (kk = 3∧o.left ≤ X):=fun o h=>h3 h.1
   simp only [refS]
   rw [if_neg (by rw [bk]; simp),if_neg (by rw [bf]; simp),if_neg z,if_neg h4,if_neg hx]
   by_cases hp:plc l ii < 0
   ·rw [if_pos hp,if_pos hp]
   ·rw [if_neg hp,if_neg hp]
    cases l[(plc l ii).toNat]? with
    | none=>rfl
    | some o=>exact if_neg (hy o))
  clear bk bf qe qR z h4 h3
  go_wp2_with fail
  refine (dq _ l ii w3 (zh (M HR) (M xM) tg)).mono ?_
  rintro e w4 ⟨rfl,xy⟩
  have xS:=Q (eG (M xM) xy)
  have xQ:Hid (w4.rangeAt w.heap.size 0 [H next,.slice a l.length F]∧w4.rangeAt (w.heap.size + 1) 0 (yu kk s ty li X ii pr O)):=⟨zb (M pZ).1 xy (by omega),zb (M pZ).2 xy hl3⟩
  clear xy
  clear k0 k1 o0 o1 o2 o3 o4 o5 o6 o7
  have k0:w4.cell? (J w.heap.size 0) = some (H next):=(M xQ).1 0 _ rfl
  have k1:w4.cell? (J w.heap.size 1) = some (.slice a l.length F):=(M xQ).1 1 _ rfl
  obtain ⟨o0,o1,o2,o3,o4,o5,o6,o7⟩:=yA (M xQ).2
  by_cases hp:plc l ii < 0
  ·have HK:Hid (res = 9):=(M pW).trans (if_pos hp)
   go_wp2_with fail
   go_ret
   exact ⟨zv (M HK).symm,M xS⟩
  ·have HK:Hid (res = 0):=(M pW).trans (if_neg hp)
   have hp':decide (plc l ii < 0) = false:=by simpa using hp
   go_wp2_with fail
   go_quiet (fail)
   go_wp2_with fail
   go_ret
   exact ⟨zv (M HK).symm,cH (M xS) _⟩
def C7o (b off n F i:Nat):Nat→Value→Prop
 | 1,v=>v = .slice (some (J b off)) n F
 | 2,v=>v = H i
 | 3,v=>v = .slice (some (J b off)) i F
 | 5,v=>v = .slice (some (J b off)) n F
 | 6,v=>v = H i
 | 7,v=>v = H ((i:Int) + 1)
 | 8,v=>∃ ad c,v = .slice (some ad) (n - (i + 1)) c∧(i + 1 < n→ad = (J b (off + (i + 1) * 6)))
 | _,_=>True
theorem l04Drop_any (b off F:Nat) (l:List Od) (i:Nat) (w:World) (hc:∀ j c,l[j]? = some c→w.rangeAt b (off + j * 6) c.vs) (hb:b < w.heap.size) (hil:i < l.length) (vR:l.length ≤ F) (hn:l.length ≤ 1000) :
  Calls Tryz.prog 87 #[.slice (some (J b off)) l.length F,H i] w fun e w'=>∃ v',e = .returned v'∧ORow w' w.heap.size v' (l.take i ++ l.drop (i + 1))∧yl w w':=by
 obtain ⟨i0,uv,uq,uw,uM⟩:=info_parts Tryz.infoOrder
 have HC:=Q hc
 clear hc
 have hicp:i ≤ F:=by omega
 have hi1:i + 1 ≤ l.length:=by omega
 have hi1':(i:Int) + 1 ≤ l.length:=by omega
 have qk:(i:Int) < l.length:=by omega
 have hige:(0:Int) ≤ i:=by omega
 have hlcp:(l.length:Int) ≤ F:=by omega
 have h0i:(0:Int) ≤ (i:Int) + 1:=by omega
 go_enter Tryz.func87,Tryz.ntmps87
 go_wp2_with fail
 refine dl (R7A (.slice none 0 0) w (C7o b off l.length F i) (l.take i) (l.take i ++ l.drop (i + 1)) (fun f=>{ tmps:=#[.slice (some (J b off)) l.length F,H i,Z,Z,f 10,f 0,f 1,f 2,f 3,f 4,f 5,f 6,f 7,f 8,f 9],defers:=[] })) (by kernel_rfl) ?_ ?_ ?_
 ·exact ⟨fun j=>if j = 10 then .slice none 0 0 else Z,rfl,⟨⟨rfl,rfl,rfl,Nat.le_refl _,fun _ _=>rfl⟩,fun j L=>by rw [yF] at L; split at L <;> simp at L,fun _=>rfl,by simp,by simp,by simp,by simp,by simp,by simp,by simp⟩⟩
 ·rintro x hR V ⟨f,rfl,A⟩ hx xK
  have xm:=aK xK hx (acyc _ (by kernel_rfl))
  have k9:x[9]? = some true:=xm 9 (by simp)
  have k10:x[10]? = some true:=xm 10 (by simp)
  have HO9:=Q (A.m9 k9)
  have jz:f 10 = f 9:=A.m10 k10
  have xo:=Q A.bel
  simp only [jz]
  generalize f 9 = v9 at HO9 ⊢
  clear A xm k9 k10 jz xK hx
  go_wp2_with fail
  go_ret
  exact ⟨_,rfl,M HO9,M xo⟩
 ·rintro x hR V i' o' ⟨f,rfl,A⟩ hx Y xq D
  have qi:=Q A
  match i',Y with
  | 0,Y =>
   obtain rfl:=hD Y
   clear A D
   rw [if_pos (by rfl)];unfold Oper.wp;go_simp
   exact ⟨upd f 0 (.slice (some (J V.heap.size 0)) 0 0),by simp [upd],r7_0 (M qi) xq (fun _=>trivial)⟩
  | 1,Y =>
   obtain rfl:=hD Y
   clear A D
   rw [if_pos (by rfl)];unfold Oper.wp;go_simp
   exact ⟨upd f 1 (.slice (some (J b off)) l.length F),by simp [upd],aY (M qi) 1 _ rfl (by decide) (by decide) (by decide) (by decide)⟩
  | 2,Y =>
   obtain rfl:=hD Y
   clear A D
   rw [if_pos (by rfl)];unfold Oper.wp;go_simp
   exact ⟨upd f 2 (H i),by simp [upd],aY (M qi) 2 _ rfl (by decide) (by decide) (by decide) (by decide)⟩
  | 3,Y =>
   obtain rfl:=hD Y
   have g1:C7o b off l.length F i 1 (f 1):=A.c 1 (yc D 1 rfl)
   have g2:C7o b off l.length F i 2 (f 2):=A.c 2 (yc D 2 rfl)
   simp only [C7o] at g1 g2
   clear A D
   rw [if_pos (by rfl)];unfold Oper.wp;go_simp
   exact ⟨upd f 3 (.slice (some (J b off)) i F),by simp [upd,g1,g2],aY (M qi) 3 _ rfl (by decide) (by decide) (by decide) (by decide)⟩
  | 4,Y =>
   obtain rfl:=hD Y
   have g3:C7o b off l.length F i 3 (f 3):=A.c 3 (yc D 3 rfl)
   have k0:x[0]? = some true:=D ⟨0,.data⟩ (by simp) rfl
   have jP:Hid (∀ j c,l[j]? = some c→V.rangeAt b (off + j * 6) c.vs):=fun j c L=>zb (M HC j c L) A.bel hb
   simp only [C7o] at g3
   clear A D
   rw [if_pos (by rfl)]
   refine wp_append_own V (.tmp 5) (.tmp 8) 26 rfl w.heap.size 49 i0 _ 6 56 Tryz.underlying26 uv uq uw uM rfl (by decide) (f 0) 0 [] rfl ((M qi).m0 k0 xq) (J b off) i F ((l.take i).flatMap Od.vs) g3 (by rw [zM Od.len,List.length_take]; congr 1; omega) (by simpa using cZ (W:=V) (g:=b) (off:=off) (l:=l) (M jP) 0 i) (bh _) (by unfold maxLen; omega) (by omega) (M qi).bel.size ?_
   intro v' w' xN ut _
   refine ⟨upd f 4 v',rfl,r7_4 (M qi) k0 xq (fun _=>trivial) ?_ ut⟩
   have xD:(l.take i).length = 0 + i:=by rw [List.length_take]; omega
   show w'.ownsRow _ _ _ _ (l.take i).length _
   rw [xD]; simpa using xN
  | 5,Y =>
   obtain rfl:=hD Y
   clear A D
   rw [if_pos (by rfl)];unfold Oper.wp;go_simp
   exact ⟨upd f 5 (.slice (some (J b off)) l.length F),by simp [upd],aY (M qi) 5 _ rfl (by decide) (by decide) (by decide) (by decide)⟩
  | 6,Y =>
   obtain rfl:=hD Y
   clear A D
   rw [if_pos (by rfl)];unfold Oper.wp;go_simp
   exact ⟨upd f 6 (H i),by simp [upd],aY (M qi) 6 _ rfl (by decide) (by decide) (by decide) (by decide)⟩
  | 7,Y =>
   obtain rfl:=hD Y
   have g6:C7o b off l.length F i 6 (f 6):=A.c 6 (yc D 6 rfl)
   simp only [C7o] at g6
   have hwr:IntKind.i64.wrap ((i:Int) + 1) = (i:Int) + 1:=by rw [IntKind.wrap_i64]; omega
   clear A D
   rw [if_pos (by rfl)];unfold Oper.wp;go_simp
   exact ⟨upd f 7 (H ((i:Int) + 1)),by simp [upd,g6],aY (M qi) 7 _ rfl (by decide) (by decide) (by decide) (by decide)⟩
  | 8,Y =>
   obtain rfl:=hD Y
   have g5:C7o b off l.length F i 5 (f 5):=A.c 5 (yc D 5 rfl)
   have g7:C7o b off l.length F i 7 (f 7):=A.c 7 (yc D 7 rfl)
   simp only [C7o] at g5 g7
   clear A D
   by_cases hcp:F = i + 1
   ·subst hcp
    rw [if_pos (by rfl)];unfold Oper.wp;go_simp
    exact ⟨upd f 8 (.slice (some (J b off)) (l.length - (i + 1)) 0),by simp [upd,g5,g7]; omega,aY (M qi) 8 _ ⟨_,_,rfl,fun h=>by omega⟩ (by decide) (by decide) (by decide) (by decide)⟩
   ·rw [if_pos (by rfl)];unfold Oper.wp;go_simp
    exact ⟨upd f 8 (.slice (some (J b (off + (i + 1) * 6))) (l.length - (i + 1)) (F - (i + 1))),by simp [upd,g5,g7],aY (M qi) 8 _ ⟨_,_,rfl,fun h=>rfl⟩ (by decide) (by decide) (by decide) (by decide)⟩
  | 9,Y =>
   obtain rfl:=hD Y
   have g8:C7o b off l.length F i 8 (f 8):=A.c 8 (yc D 8 rfl)
   have k4:x[4]? = some true:=D ⟨4,.data⟩ (by simp) rfl
   have jP:Hid (∀ j c,l[j]? = some c→V.rangeAt b (off + j * 6) c.vs):=fun j c L=>zb (M HC j c L) A.bel hb
   obtain ⟨ad8,c8,g8,had⟩:=g8
   clear A D
   have hsrc8:∀ j u,((l.drop (i + 1)).flatMap Od.vs)[j]? = some u→V.cell? (ad8.add j) = some u:=by
    intro j u hu
    by_cases xL:i + 1 < l.length
    ·rw [had xL]
     have:=cZ (W:=V) (g:=b) (off:=off) (l:=l) (M jP) (i + 1) (l.length - (i + 1)) j u (by rw [yW (by simp)]; exact hu)
     simpa using this
    ·rw [yX (by omega)] at hu; simp at hu
   rw [if_pos (by rfl)]
   refine wp_append_own V (.tmp 9) (.tmp 13) 26 rfl w.heap.size 49 i0 _ 6 56 Tryz.underlying26 uv uq uw uM rfl (by decide) (f 4) (l.take i).length ((l.take i).flatMap Od.vs) rfl ((M qi).m4 k4 xq) ad8 (l.length - (i + 1)) c8 ((l.drop (i + 1)).flatMap Od.vs) g8 (by rw [zM Od.len,List.length_drop]) hsrc8 (bh _) (by unfold maxLen; rw [List.length_take]; omega) (by rw [List.length_take]; omega) (M qi).bel.size ?_
   intro v' w' xN ut _
   refine ⟨upd f 9 v',rfl,r7_9 (M qi) k4 xq (fun _=>trivial) ?_ ut⟩
   show w'.ownsRow _ _ _ _ (l.take i ++ l.drop (i + 1)).length _
   rw [yM,List.length_drop,List.flatMap_append]
   exact xN
  | 10,Y =>
   obtain rfl:=hD Y
   have hA:∀ j,j < 10→x[j]? = some true:=fun j L=>D ⟨j,.phase⟩ (by
    match j,L with
    | 0,_=>simp
    | 1,_=>simp
    | 2,_=>simp
    | 3,_=>simp
    | 4,_=>simp
    | 5,_=>simp
    | 6,_=>simp
    | 7,_=>simp
    | 8,_=>simp
    | 9,_=>simp
    | n + 10,h=>omega) rfl
   clear A D
   rw [if_pos (by rfl)];unfold Oper.wp;go_simp
   exact ⟨upd f 10 (f 9),by simp [upd],r7_10 (M qi) hA xq (fun _=>trivial)⟩
  | n + 11,Y=>simp at Y
theorem infoIn:(Tryz.prog.info? 3).map (fun i=>(i.zero,i.size,i.bytes)) = some (some (H 0),1,8):=by kernel_rfl
def dysF:List Od→Nat→List Nat
 | [],_=>[]
 | o :: r,k=>if o.life = 1 then k :: dysF r (k + 1) else dysF r (k + 1)
def dys (l:List Od):List Nat:=dysF l 0
def nval (k:Nat):Value:=H k
abbrev IRow (W:World) (B:Nat) (v:Value) (l:List Nat):Prop:=W.ownsRow B 3 1 v l.length (l.map nval)
theorem drop_getD {l:List Od} {k:Nat} {c:Od} (h:l[k]? = some c):l.drop k = c :: l.drop (k + 1):=by
 obtain ⟨z,rfl⟩:=yD.1 h
 exact yZ z
theorem l04Days_any (v:Value) (l:List Od) (w:World) (hr:RdR Od.vs 6 w v l) (hn:l.length ≤ 1000) :
  Calls Tryz.prog 88 #[v] w fun e w'=>∃ v',e = .returned v'∧IRow w' w.heap.size v' (dys l)∧yl w w':=by
 obtain ⟨a,F,rfl,xD,hc⟩:=hr
 obtain ⟨i0,uv,uq,uw,uM⟩:=info_parts infoIn
 have xn:∀ (k:Nat) (c:Od),l[k]? = some c→∃ b off,a = some (J b off)∧b < w.heap.size∧w.rangeAt b (off + k * 6) c.vs:=by
  intro k c hk
  obtain ⟨b,off,z,K,h3⟩:=hc (by intro h; rw [h] at hk; simp at hk)
  exact ⟨b,off,z,K,h3 k c hk⟩
 have HC:=Q xn
 clear xn hc
 have vB:=Q (World.ownsRow_made (base:=w.heap.size) (e:=3) (size:=1) w #[] 0 tg (by decide) rfl)
 have ua:Hid (yl w (w.alloc (E #[] 3))):=eD _ _
 go_enter Tryz.func88,Tryz.ntmps88
 go_wp2_with fail
 go_loopw [3,4] (fun ov iv wr=>∃ (k:Nat) (out:List Nat),k ≤ l.length∧iv = H k∧Hid (dys l = out ++ dysF (l.drop k) k)∧out.length ≤ k∧IRow wr w.heap.size ov out∧yl w wr) (fun _ iv _=>l.length - (intOf iv).toNat)
 case atStart=>exact ⟨0,[],Nat.zero_le _,rfl,rfl,Nat.le_refl _,M vB,M ua⟩
 case round =>
  obtain ⟨k,out,hk,rfl,qN,pE,xN,xe⟩:=hrel
  have HB:=Q xe
  have HO:=Q xN
  have ke:=xe.size
  clear xe xN vB ua
  by_cases xL:k < l.length
  ·obtain ⟨c,uC⟩:∃ c,l[k]? = some c:=⟨_,yE xL⟩
   have HP:Hid (dys l = out ++ if c.life = 1 then k :: dysF (l.drop (k + 1)) (k + 1) else dysF (l.drop (k + 1)) (k + 1)):=by
    have:=M qN
    rw [drop_getD uC] at this
    exact this
   obtain ⟨b,off,rfl,hb,xk⟩:=M HC k c uC
   obtain ⟨g0,g1,g2,g3,g4,g5⟩:=zx (zb xk (M HB) hb)
   have uO:(k:Int) < l.length:=by omega
   clear uC xk hb qN
   by_cases vM:c.life = 1
   ·have HP1:Hid (dys l = (out ++ [k]) ++ dysF (l.drop (k + 1)) (k + 1)):=by
     have:=M HP
     rw [if_pos vM] at this
     show _ = _
     rw [this]; simp
    rw [vM] at g4
    clear HP vM
    go_wp2_with (at_builtin; go_must (refine wpList_append_own _ rfl _ _ 55 rfl w.heap.size 3 i0 _ 1 8 Tryz.underlying55 uv uq uw uM rfl (by decide) _ out.length (out.map nval) rfl ((M HO).alloc _) (J wr.heap.size 0) 1 1 [nval k] rfl rfl (bQ wr _ _) (by simp [Value.oneCell',nval]) (by unfold maxLen; omega) (by omega) (by simp; omega) ?_); intro v4 w4 jd km _; have kQ:=Q jd; have xS:=Q (((M HB).alloc ke _).grown km (by rw [ze]; omega) (fun k hk=>((M HO).lt k hk).1)); clear jd km)
    go_roundw
    case rel=>exact ⟨k + 1,out ++ [k],by omega,by go_num,M HP1,by simp; omega,by show World.ownsRow _ _ _ _ _ _ _; simpa using M kQ,M xS⟩
    case measure=>simp [intOf]; omega
   ·have HP1:Hid (dys l = out ++ dysF (l.drop (k + 1)) (k + 1)):=by
     have:=M HP
     rw [if_neg vM] at this
     exact this
    clear HP
    go_wp2_with fail
    go_roundw
    case rel=>exact ⟨k + 1,out,by omega,by go_num,M HP1,by omega,M HO,M HB⟩
    case measure=>simp [intOf]; omega
  ·have hke:k = l.length:=by omega
   have HE:Hid (dys l = out):=by
    have:=M qN
    rw [yX (by omega)] at this
    show _ = _
    rw [this]; simp [dysF]
   have hge:¬ ((k:Int) < l.length):=by omega
   clear qN xL hke
   go_wp2_with fail
   go_ret
   refine ⟨_,rfl,?_,M HB⟩
   rw [M HE]
   exact M HO
theorem specCut_any (s:ByteArray) (w:World) (hs:s.size ≤ maxLen) :
  Calls Tryz.prog 134 #[yi s] w fun e w'=>e = yk (yi (cutB s))∧w' = w:=by
 unfold maxLen at hs
 by_cases h:13 < s.size
 ·have HF:=Q (show cutB s = s.extract 0 13 from if_pos (by omega))
  have h':(13:Int) < s.size:=by omega
  go_enter Tryz.func134,Tryz.ntmps134
  go_wp2
  go_ret
  exact ⟨by rw [M HF]; rfl,rfl⟩
 ·have HF:Hid (cutB s = s):=by
   by_cases h3:s.size = 13
   ·exact cutB_one s h3
   ·exact if_neg (by omega)
  have h':(s.size:Int) ≤ 13:=by omega
  go_enter Tryz.func134,Tryz.ntmps134
  go_wp2
  go_ret
  exact ⟨by rw [M HF]; rfl,rfl⟩
theorem dE (c:Cm) (w:World) (hg:c.g.size ≤ maxLen) :
  Calls Tryz.prog 85 #[.agg (yu c.k c.s c.t c.l c.q c.i c.p c.g).toArray] w fun e w' =>
   e = yk (.agg (yu c.k c.s c.t c.l c.q c.i c.p (cutB c.g)).toArray)∧yl w w':=by
 obtain ⟨k,s,t,l,q,i,p,g⟩:=c
 have HS:=Q (fun W=>specCut_any g W hg)
 have hsf:=sfl
 simp only at *
 clear hg
 go_enter Tryz.func85,Tryz.ntmps85
 go_wp2_with (go_at_call 134; refine (M HS _).mono ?_; rintro e w' ⟨rfl,rfl⟩)
 go_returns
 refine ⟨rfl,?_⟩
 go_grown
end Go.Proofs.YtbakanofkghmiaaGreat
