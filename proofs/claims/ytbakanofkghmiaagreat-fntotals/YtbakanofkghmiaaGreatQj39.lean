/-
  Why a command is refused, by the model: proved by walking the functions.
-/
import Derived.Test.YtbakanofkghmiaaGreatQj38
set_option linter.unusedVariables false
set_option maxHeartbeats 6400000
set_option maxRecDepth 100000
namespace Go.Proofs.YtbakanofkghmiaaGreat
open Go.RowKit
theorem dH (next:Int) (vb:Value) (l:List Od) (c:Cm) (w:World) (hr:RdR Od.vs 6 w vb l) (hs:SlOk vb) (hg:GoodL l) (uJ:∀ x ∈ l,x.side = 1 ∨ x.side = 2) (ht:c.g.size ≤ maxLen) :
  Calls Tryz.prog 84 #[.agg #[H next,vb],cmV c] w fun e w'=>e = .returned (H (refS next l c))∧yn w w':=by
 have HNW:=Y (fun W hW=>l04New_any next vb l c W hW hs hg uJ ht)
 have HFM:=Y (fun W=>l04Form_any c W)
 have vN:=hg.len
 generalize pQ:refS next l c = res
 have vJ:=Y pQ.symm
 generalize hnr:newR next l c = nr at HNW
 have ja:=Y hnr
 clear hg uJ ht pQ hnr
 obtain ⟨kk,s,F,li,L,ii,pr,O⟩:=c
 unfold cmV at HNW HFM ⊢
 simp only at HNW HFM ⊢
 have HR:=Y hr
 have vP:=Y hs
 obtain ⟨a,A,rfl,xG,hc⟩:=hr
 have xr:∀ (k:Nat) (c:Od),l[k]? = some c→∃ b off,a = some (J b off)∧b < w.heap.size∧w.rangeAt b (off + k * 6) c.vs:=by
  intro k c hk
  obtain ⟨b,off,Q,N,h3⟩:=hc (by intro h; rw [h] at hk; simp at hk)
  exact ⟨b,off,Q,N,h3 k c hk⟩
 have HC:=Y xr
 clear xr hc xG hs
 have xC:=zh w (E #[H next,.slice a l.length A] 28)
 have ua:((w.alloc (E #[H next,.slice a l.length A] 28)).alloc (E (yx kk s F li L ii pr O).toArray 43)).heap.size = w.heap.size + 1 + 1:=by rw [zh,xC]
 have r1:=zi w [H next,.slice a l.length A] 28
 have r2:=zi (w.alloc (E #[H next,.slice a l.length A] 28)) (yx kk s F li L ii pr O) 43
 rw [xC] at r2
 have qe:Below (w.heap.size + 1) (w.alloc (E #[H next,.slice a l.length A] 28)) ((w.alloc (E #[H next,.slice a l.length A] 28)).alloc (E (yx kk s F li L ii pr O).toArray 43)):=(Below.refl _ _).alloc (by rw [xC]; omega) _
 have xE:Hid (yn w ((w.alloc (E #[H next,.slice a l.length A] 28)).alloc (E (yx kk s F li L ii pr O).toArray 43))):=(eE _ _).alloc (by rw [xC]; omega) _
 have HX:Hid (_∧_):=⟨zb r1 qe (by omega),r2⟩
 have uv:Hid (w.heap.size + 1 < ((w.alloc (E #[H next,.slice a l.length A] 28)).alloc (E (yx kk s F li L ii pr O).toArray 43)).heap.size):=by show _ < _; omega
 clear xC ua r1 r2 qe
 go_enter Tryz.func84,Tryz.ntmps84
 refine eI fun hR xv=>?_
 go_wp2_with fail
 refine U xv _ _ ?_
 clear xv
 generalize ((w.alloc (E #[H next,.slice a l.length A] 28)).alloc (E (yx kk s F li L ii pr O).toArray 43)) = X2 at xE HX uv ⊢
 have HX:Hid (X2.rangeAt w.heap.size 0 [H next,.slice a l.length A]∧X2.rangeAt (w.heap.size + 1) 0 (yx kk s F li L ii pr O)):=U HX
 have k0:X2.cell? (J w.heap.size 0) = some (H next):=(U HX).1 0 _ rfl
 have k1:X2.cell? (J w.heap.size 1) = some (.slice a l.length A):=(U HX).1 1 _ rfl
 obtain ⟨o0,o1,o2,o3,o4,o5,o6,o7⟩:=yE (U HX).2
 cases bk:betB kk 1 4
 ·have HK:Hid (res = 1):=(U vJ).trans (by simp [refS,bk])
  go_wp2_with (first | (go_at_call 80; refine (dq _ _ _ _).mono ?_; rintro e w' ⟨rfl,un⟩; rw [un]; clear un w'))
  go_ret
  exact ⟨zt (U HK).symm,U xE⟩
 go_wp2_with (first | (go_at_call 80; refine (dq _ _ _ _).mono ?_; rintro e w' ⟨rfl,un⟩; rw [un]; clear un w'))
 refine (U HFM _).mono ?_
 cases bf:aR ⟨kk,s,F,li,L,ii,pr,O⟩
 ·rintro e w3 ⟨rfl,um⟩
  have xQ:=Y (eH (U xE) um)
  have HK:Hid (res = 2):=(U vJ).trans (by simp [refS,bk,bf])
  clear um bf bk
  go_wp2_with fail
  go_ret
  exact ⟨zt (U HK).symm,U xQ⟩
 rintro e w3 ⟨rfl,um⟩
 have xQ:=Y (eH (U xE) um)
 have oY:Hid (w3.rangeAt w.heap.size 0 [H next,.slice a l.length A]∧w3.rangeAt (w.heap.size + 1) 0 (yx kk s F li L ii pr O)):=⟨zb (U HX).1 um (by have:=U uv; omega),zb (U HX).2 um (U uv)⟩
 have hl3:w.heap.size + 1 < w3.heap.size:=yK (U uv) um.size
 clear um HX xE uv
 clear k0 k1 o0 o1 o2 o3 o4 o5 o6 o7
 have k0:w3.cell? (J w.heap.size 0) = some (H next):=(U oY).1 0 _ rfl
 have k1:w3.cell? (J w.heap.size 1) = some (.slice a l.length A):=(U oY).1 1 _ rfl
 obtain ⟨o0,o1,o2,o3,o4,o5,o6,o7⟩:=yE (U oY).2
 by_cases Q:kk = 1
 ·subst Q
  have HK:Hid (res = nr):=(U vJ).trans (by rw [← U ja]; simp [refS,bk,bf])
  clear bk bf vJ ja
  go_wp2_with fail
  refine (U HNW w3 (zn (U HR) (U xQ) tg)).mono ?_
  rintro e w4 ⟨rfl,xD⟩
  have ud:=Y (eH (U xQ) xD)
  clear xD
  go_wp2_with fail
  go_ret
  exact ⟨zt (U HK).symm,U ud⟩
 by_cases h4:kk = 4
 ·subst h4
  have HK:Hid (res = 0):=(U vJ).trans (by simp [refS,bk,bf])
  clear bk bf vJ ja
  go_wp2_with fail
  go_ret
  exact ⟨zt (U HK).symm,U xQ⟩
 have b1:(kk == 1) = false:=by rw [xe]; exact Q
 have b4:(kk == 4) = false:=by rw [xe]; exact h4
 by_cases h3:kk = 3
 ·subst h3
  cases bq:betB L 1 1000000
  ·have HK:Hid (res = 7):=(U vJ).trans (by simp [refS,bk,bf,bq])
   clear bk bf vJ ja
   go_wp2_with (first | (go_at_call 80; refine (dq _ _ _ _).mono ?_; rintro e w' ⟨rfl,un⟩; rw [un]; clear un w'))
   go_ret
   exact ⟨zt (U HK).symm,U xQ⟩
  have oF:Hid (res = if plc l ii < 0 then 9 else match l[(plc l ii).toNat]? with | some o=>if o.left ≤ L then 10 else 0 | none=>0):=(U vJ).trans (by simp [refS,bk,bf,bq]; cases l[(plc l ii).toNat]? <;> rfl)
  clear bk bf vJ ja Q h4
  go_wp2_with (first | (go_at_call 80; refine (dq _ _ _ _).mono ?_; rintro e w' ⟨rfl,un⟩; rw [un]; clear un w'))
  refine (dn _ l ii w3 (zn (U HR) (U xQ) tg)).mono ?_
  rintro e w4 ⟨rfl,xD⟩
  have ud:=Y (eH (U xQ) xD)
  have xO:Hid (w4.rangeAt w.heap.size 0 [H next,.slice a l.length A]∧w4.rangeAt (w.heap.size + 1) 0 (yx 3 s F li L ii pr O)):=⟨zb (U oY).1 xD (by omega),zb (U oY).2 xD hl3⟩
  clear xD
  clear k0 k1 o0 o1 o2 o3 o4 o5 o6 o7
  have k0:w4.cell? (J w.heap.size 0) = some (H next):=(U xO).1 0 _ rfl
  have k1:w4.cell? (J w.heap.size 1) = some (.slice a l.length A):=(U xO).1 1 _ rfl
  obtain ⟨o0,o1,o2,o3,o4,o5,o6,o7⟩:=yE (U xO).2
  rcases dt l ii with e | ⟨k,o,e,Z⟩
  ·have HK:Hid (res = 9):=(U oF).trans (by rw [e]; rfl)
   rw [e]
   clear e
   go_wp2_with fail
   go_ret
   exact ⟨zt (U HK).symm,U ud⟩
  ·have oF:Hid (res = if o.left ≤ L then 10 else 0):=(U oF).trans (by rw [e,if_neg (by omega)]; simp [Z])
   obtain ⟨b,off,rfl,X,xp⟩:=U HC k o Z
   have kN:=(yH.1 Z).1
   have c3:w4.cell? (J b (off + k * 6 + 3)) = some (H o.left):=zb xp (U ud) X 3 _ rfl
   have kX:(k:Int) < l.length:=by omega
   have hk0:(0:Int) ≤ k:=by omega
   have hkn:¬ (k:Int) < 0:=by omega
   rw [e]
   clear e Z xp X kN
   by_cases hq:o.left ≤ L
   ·have HK:Hid (res = 10):=(U oF).trans (if_pos hq)
    have hq':decide (o.left ≤ L) = true:=by simpa using hq
    go_wp2_with fail
    go_quiet (fail)
    go_wp2_with fail
    go_ret
    exact ⟨zt (U HK).symm,cU (U ud) _⟩
   ·have HK:Hid (res = 0):=(U oF).trans (if_neg hq)
    have hq':decide (o.left ≤ L) = false:=by simpa using hq
    go_wp2_with fail
    go_quiet (fail)
    go_wp2_with fail
    go_ret
    exact ⟨zt (U HK).symm,cU (U ud) _⟩
 ·have b3:(kk == 3) = false:=by rw [xe]; exact h3
  have oF:Hid (res = if plc l ii < 0 then 9 else 0):=(U vJ).trans (by
   have hx:¬ (kk = 3∧betB L 1 1000000 = false):=fun h=>h3 h.1
   have hy:∀ o:Od,¬ (kk = 3∧o.left ≤ L):=fun o h=>h3 h.1
   simp only [refS]
   rw [if_neg (by rw [bk]; simp),if_neg (by rw [bf]; simp),if_neg Q,if_neg h4,if_neg hx]
   by_cases hp:plc l ii < 0
   ·rw [if_pos hp,if_pos hp]
   ·rw [if_neg hp,if_neg hp]
    cases l[(plc l ii).toNat]? with
    | none=>rfl
    | some o=>exact if_neg (hy o))
  clear bk bf vJ ja Q h4 h3
  go_wp2_with fail
  refine (dn _ l ii w3 (zn (U HR) (U xQ) tg)).mono ?_
  rintro e w4 ⟨rfl,xD⟩
  have ud:=Y (eH (U xQ) xD)
  have xO:Hid (w4.rangeAt w.heap.size 0 [H next,.slice a l.length A]∧w4.rangeAt (w.heap.size + 1) 0 (yx kk s F li L ii pr O)):=⟨zb (U oY).1 xD (by omega),zb (U oY).2 xD hl3⟩
  clear xD
  clear k0 k1 o0 o1 o2 o3 o4 o5 o6 o7
  have k0:w4.cell? (J w.heap.size 0) = some (H next):=(U xO).1 0 _ rfl
  have k1:w4.cell? (J w.heap.size 1) = some (.slice a l.length A):=(U xO).1 1 _ rfl
  obtain ⟨o0,o1,o2,o3,o4,o5,o6,o7⟩:=yE (U xO).2
  by_cases hp:plc l ii < 0
  ·have HK:Hid (res = 9):=(U oF).trans (if_pos hp)
   go_wp2_with fail
   go_ret
   exact ⟨zt (U HK).symm,U ud⟩
  ·have HK:Hid (res = 0):=(U oF).trans (if_neg hp)
   have hp':decide (plc l ii < 0) = false:=by simpa using hp
   go_wp2_with fail
   go_quiet (fail)
   go_wp2_with fail
   go_ret
   exact ⟨zt (U HK).symm,cU (U ud) _⟩
def C7o (b off n A i:Nat):Nat→Value→Prop
 | 1,v=>v = .slice (some (J b off)) n A
 | 2,v=>v = H i
 | 3,v=>v = .slice (some (J b off)) i A
 | 5,v=>v = .slice (some (J b off)) n A
 | 6,v=>v = H i
 | 7,v=>v = H ((i:Int) + 1)
 | 8,v=>∃ ad c,v = .slice (some ad) (n - (i + 1)) c∧(i + 1 < n→ad = (J b (off + (i + 1) * 6)))
 | _,_=>True
theorem l04Drop_any (b off A:Nat) (l:List Od) (i:Nat) (w:World) (hc:∀ j c,l[j]? = some c→w.rangeAt b (off + j * 6) c.vs) (X:b < w.heap.size) (hil:i < l.length) (vW:l.length ≤ A) (hn:l.length ≤ 1000) :
  Calls Tryz.prog 87 #[.slice (some (J b off)) l.length A,H i] w fun e w'=>∃ v',e = .returned v'∧ORow w' w.heap.size v' (l.take i ++ l.drop (i + 1))∧yn w w':=by
 obtain ⟨i0,uG,uF,uI,uT⟩:=info_parts Tryz.infoOrder
 have HC:=Y hc
 clear hc
 have hicp:i ≤ A:=by omega
 have ph:i + 1 ≤ l.length:=by omega
 have hi1':(i:Int) + 1 ≤ l.length:=by omega
 have ql:(i:Int) < l.length:=by omega
 have hige:(0:Int) ≤ i:=by omega
 have hlcp:(l.length:Int) ≤ A:=by omega
 have h0i:(0:Int) ≤ (i:Int) + 1:=by omega
 go_enter Tryz.func87,Tryz.ntmps87
 go_wp2_with fail
 refine dk (R7A (.slice none 0 0) w (C7o b off l.length A i) (l.take i) (l.take i ++ l.drop (i + 1)) (fun f=>{ tmps:=#[.slice (some (J b off)) l.length A,H i,M,M,f 10,f 0,f 1,f 2,f 3,f 4,f 5,f 6,f 7,f 8,f 9],defers:=[] })) (by kernel_rfl) ?_ ?_ ?_
 ·exact ⟨fun j=>if j = 10 then .slice none 0 0 else M,rfl,⟨⟨rfl,rfl,rfl,Nat.le_refl _,fun _ _=>rfl⟩,fun j R=>by rw [yJ] at R; split at R <;> simp at R,fun _=>rfl,by simp,by simp,by simp,by simp,by simp,by simp,by simp⟩⟩
 ·rintro x xn V ⟨f,rfl,K⟩ hx xN
  have xq:=zS xN hx (acyc _ (by kernel_rfl))
  have k9:x[9]? = some true:=xq 9 (by simp)
  have k10:x[10]? = some true:=xq 10 (by simp)
  have HO9:=Y (K.m9 k9)
  have oG:f 10 = f 9:=K.m10 k10
  have xw:=Y K.bel
  simp only [oG]
  generalize f 9 = v9 at HO9 ⊢
  clear K xq k9 k10 oG xN hx
  go_wp2_with fail
  go_ret
  exact ⟨_,rfl,U HO9,U xw⟩
 ·rintro x xn V i' o' ⟨f,rfl,K⟩ hx Z xz D
  have qv:=Y K
  match i',Z with
  | 0,Z =>
   obtain rfl:=ya Z
   clear K D
   rw [if_pos (by rfl)];unfold Oper.wp;go_simp
   exact ⟨upd f 0 (.slice (some (J V.heap.size 0)) 0 0),by simp [upd],r7_0 (U qv) xz (fun _=>trivial)⟩
  | 1,Z =>
   obtain rfl:=ya Z
   clear K D
   rw [if_pos (by rfl)];unfold Oper.wp;go_simp
   exact ⟨upd f 1 (.slice (some (J b off)) l.length A),by simp [upd],bw (U qv) 1 _ rfl (by decide) (by decide) (by decide) (by decide)⟩
  | 2,Z =>
   obtain rfl:=ya Z
   clear K D
   rw [if_pos (by rfl)];unfold Oper.wp;go_simp
   exact ⟨upd f 2 (H i),by simp [upd],bw (U qv) 2 _ rfl (by decide) (by decide) (by decide) (by decide)⟩
  | 3,Z =>
   obtain rfl:=ya Z
   have g1:C7o b off l.length A i 1 (f 1):=K.c 1 (ye D 1 rfl)
   have g2:C7o b off l.length A i 2 (f 2):=K.c 2 (ye D 2 rfl)
   simp only [C7o] at g1 g2
   clear K D
   rw [if_pos (by rfl)];unfold Oper.wp;go_simp
   exact ⟨upd f 3 (.slice (some (J b off)) i A),by simp [upd,g1,g2],bw (U qv) 3 _ rfl (by decide) (by decide) (by decide) (by decide)⟩
  | 4,Z =>
   obtain rfl:=ya Z
   have g3:C7o b off l.length A i 3 (f 3):=K.c 3 (ye D 3 rfl)
   have k0:x[0]? = some true:=D ⟨0,.data⟩ (by simp) rfl
   have kp:Hid (∀ j c,l[j]? = some c→V.rangeAt b (off + j * 6) c.vs):=fun j c R=>zb (U HC j c R) K.bel X
   simp only [C7o] at g3
   clear K D
   rw [if_pos (by rfl)]
   refine wp_append_own V (.tmp 5) (.tmp 8) 26 rfl w.heap.size 49 i0 _ 6 56 Tryz.underlying26 uG uF uI uT rfl (by decide) (f 0) 0 [] rfl ((U qv).m0 k0 xz) (J b off) i A ((l.take i).flatMap Od.vs) g3 (by rw [zK Od.len,List.length_take]; congr 1; omega) (by simpa using cW (W:=V) (g:=b) (off:=off) (l:=l) (U kp) 0 i) (bB _) (by unfold maxLen; omega) (by omega) (U qv).bel.size ?_
   intro v' w' xI uc _
   refine ⟨upd f 4 v',rfl,r7_4 (U qv) k0 xz (fun _=>trivial) ?_ uc⟩
   have xG:(l.take i).length = 0 + i:=by rw [List.length_take]; omega
   show w'.ownsRow _ _ _ _ (l.take i).length _
   rw [xG]; simpa using xI
  | 5,Z =>
   obtain rfl:=ya Z
   clear K D
   rw [if_pos (by rfl)];unfold Oper.wp;go_simp
   exact ⟨upd f 5 (.slice (some (J b off)) l.length A),by simp [upd],bw (U qv) 5 _ rfl (by decide) (by decide) (by decide) (by decide)⟩
  | 6,Z =>
   obtain rfl:=ya Z
   clear K D
   rw [if_pos (by rfl)];unfold Oper.wp;go_simp
   exact ⟨upd f 6 (H i),by simp [upd],bw (U qv) 6 _ rfl (by decide) (by decide) (by decide) (by decide)⟩
  | 7,Z =>
   obtain rfl:=ya Z
   have g6:C7o b off l.length A i 6 (f 6):=K.c 6 (ye D 6 rfl)
   simp only [C7o] at g6
   have hwr:IntKind.i64.wrap ((i:Int) + 1) = (i:Int) + 1:=by rw [IntKind.wrap_i64]; omega
   clear K D
   rw [if_pos (by rfl)];unfold Oper.wp;go_simp
   exact ⟨upd f 7 (H ((i:Int) + 1)),by simp [upd,g6],bw (U qv) 7 _ rfl (by decide) (by decide) (by decide) (by decide)⟩
  | 8,Z =>
   obtain rfl:=ya Z
   have g5:C7o b off l.length A i 5 (f 5):=K.c 5 (ye D 5 rfl)
   have g7:C7o b off l.length A i 7 (f 7):=K.c 7 (ye D 7 rfl)
   simp only [C7o] at g5 g7
   clear K D
   by_cases hcp:A = i + 1
   ·subst hcp
    rw [if_pos (by rfl)];unfold Oper.wp;go_simp
    exact ⟨upd f 8 (.slice (some (J b off)) (l.length - (i + 1)) 0),by simp [upd,g5,g7]; omega,bw (U qv) 8 _ ⟨_,_,rfl,fun h=>by omega⟩ (by decide) (by decide) (by decide) (by decide)⟩
   ·rw [if_pos (by rfl)];unfold Oper.wp;go_simp
    exact ⟨upd f 8 (.slice (some (J b (off + (i + 1) * 6))) (l.length - (i + 1)) (A - (i + 1))),by simp [upd,g5,g7],bw (U qv) 8 _ ⟨_,_,rfl,fun h=>rfl⟩ (by decide) (by decide) (by decide) (by decide)⟩
  | 9,Z =>
   obtain rfl:=ya Z
   have g8:C7o b off l.length A i 8 (f 8):=K.c 8 (ye D 8 rfl)
   have k4:x[4]? = some true:=D ⟨4,.data⟩ (by simp) rfl
   have kp:Hid (∀ j c,l[j]? = some c→V.rangeAt b (off + j * 6) c.vs):=fun j c R=>zb (U HC j c R) K.bel X
   obtain ⟨ad8,c8,g8,had⟩:=g8
   clear K D
   have hsrc8:∀ j u,((l.drop (i + 1)).flatMap Od.vs)[j]? = some u→V.cell? (ad8.add j) = some u:=by
    intro j u hu
    by_cases xL:i + 1 < l.length
    ·rw [had xL]
     have:=cW (W:=V) (g:=b) (off:=off) (l:=l) (U kp) (i + 1) (l.length - (i + 1)) j u (by rw [xa (by simp)]; exact hu)
     simpa using this
    ·rw [xb (by omega)] at hu; simp at hu
   rw [if_pos (by rfl)]
   refine wp_append_own V (.tmp 9) (.tmp 13) 26 rfl w.heap.size 49 i0 _ 6 56 Tryz.underlying26 uG uF uI uT rfl (by decide) (f 4) (l.take i).length ((l.take i).flatMap Od.vs) rfl ((U qv).m4 k4 xz) ad8 (l.length - (i + 1)) c8 ((l.drop (i + 1)).flatMap Od.vs) g8 (by rw [zK Od.len,List.length_drop]) hsrc8 (bB _) (by unfold maxLen; rw [List.length_take]; omega) (by rw [List.length_take]; omega) (U qv).bel.size ?_
   intro v' w' xI uc _
   refine ⟨upd f 9 v',rfl,r7_9 (U qv) k4 xz (fun _=>trivial) ?_ uc⟩
   show w'.ownsRow _ _ _ _ (l.take i ++ l.drop (i + 1)).length _
   rw [yQ,List.length_drop,List.flatMap_append]
   exact xI
  | 10,Z =>
   obtain rfl:=ya Z
   have hA:∀ j,j < 10→x[j]? = some true:=fun j R=>D ⟨j,.phase⟩ (by
    match j,R with
    | 0,_=>simp
    | 1,_=>simp
    | 2,_=>simp
    | 3,_=>simp
    | 4,_=>simp
    | 5,_=>simp
    | 6,_=>simp
    | 7,_=>simp
    | 8,_=>simp
    | 9,_=>simp
    | n + 10,h=>omega) rfl
   clear K D
   rw [if_pos (by rfl)];unfold Oper.wp;go_simp
   exact ⟨upd f 10 (f 9),by simp [upd],r7_10 (U qv) hA xz (fun _=>trivial)⟩
  | n + 11,Z=>simp at Z
theorem infoIn:(Tryz.prog.info? 3).map (fun i=>(i.zero,i.size,i.bytes)) = some (some (H 0),1,8):=by kernel_rfl
def dysF:List Od→Nat→List Nat
 | [],_=>[]
 | o :: r,k=>if o.life = 1 then k :: dysF r (k + 1) else dysF r (k + 1)
def dys (l:List Od):List Nat:=dysF l 0
def nval (k:Nat):Value:=H k
abbrev IRow (W:World) (B:Nat) (v:Value) (l:List Nat):Prop:=W.ownsRow B 3 1 v l.length (l.map nval)
theorem drop_getD {l:List Od} {k:Nat} {c:Od} (h:l[k]? = some c):l.drop k = c :: l.drop (k + 1):=by
 obtain ⟨Q,rfl⟩:=yH.1 h
 exact xd Q
theorem l04Days_any (v:Value) (l:List Od) (w:World) (hr:RdR Od.vs 6 w v l) (hn:l.length ≤ 1000) :
  Calls Tryz.prog 88 #[v] w fun e w'=>∃ v',e = .returned v'∧IRow w' w.heap.size v' (dys l)∧yn w w':=by
 obtain ⟨a,A,rfl,xG,hc⟩:=hr
 obtain ⟨i0,uG,uF,uI,uT⟩:=info_parts infoIn
 have xr:∀ (k:Nat) (c:Od),l[k]? = some c→∃ b off,a = some (J b off)∧b < w.heap.size∧w.rangeAt b (off + k * 6) c.vs:=by
  intro k c hk
  obtain ⟨b,off,Q,N,h3⟩:=hc (by intro h; rw [h] at hk; simp at hk)
  exact ⟨b,off,Q,N,h3 k c hk⟩
 have HC:=Y xr
 clear xr hc
 have vI:=Y (World.ownsRow_made (base:=w.heap.size) (e:=3) (size:=1) w #[] 0 tg (by decide) rfl)
 have uO:Hid (yn w (w.alloc (E #[] 3))):=eE _ _
 go_enter Tryz.func88,Tryz.ntmps88
 go_wp2_with fail
 go_loopw [3,4] (fun ov iv wr=>∃ (k:Nat) (out:List Nat),k ≤ l.length∧iv = H k∧Hid (dys l = out ++ dysF (l.drop k) k)∧out.length ≤ k∧IRow wr w.heap.size ov out∧yn w wr) (fun _ iv _=>l.length - (intOf iv).toNat)
 case atStart=>exact ⟨0,[],Nat.zero_le _,rfl,rfl,Nat.le_refl _,U vI,U uO⟩
 case round =>
  obtain ⟨k,out,hk,rfl,jZ,pN,xI,xm⟩:=hrel
  have HB:=Y xm
  have HO:=Y xI
  have qW:=xm.size
  clear xm xI vI uO
  by_cases xL:k < l.length
  ·obtain ⟨c,vd⟩:∃ c,l[k]? = some c:=⟨_,yI xL⟩
   have HP:Hid (dys l = out ++ if c.life = 1 then k :: dysF (l.drop (k + 1)) (k + 1) else dysF (l.drop (k + 1)) (k + 1)):=by
    have:=U jZ
    rw [drop_getD vd] at this
    exact this
   obtain ⟨b,off,rfl,X,xp⟩:=U HC k c vd
   obtain ⟨g0,g1,g2,g3,g4,g5⟩:=zF (zb xp (U HB) X)
   have uy:(k:Int) < l.length:=by omega
   clear vd xp X jZ
   by_cases qq:c.life = 1
   ·have HP1:Hid (dys l = (out ++ [k]) ++ dysF (l.drop (k + 1)) (k + 1)):=by
     have:=U HP
     rw [if_pos qq] at this
     show _ = _
     rw [this]; simp
    rw [qq] at g4
    clear HP qq
    go_wp2_with (at_builtin; go_must (refine wpList_append_own _ rfl _ _ 55 rfl w.heap.size 3 i0 _ 1 8 Tryz.underlying55 uG uF uI uT rfl (by decide) _ out.length (out.map nval) rfl ((U HO).alloc _) (J wr.heap.size 0) 1 1 [nval k] rfl rfl (cy wr _ _) (by simp [Value.oneCell',nval]) (by unfold maxLen; omega) (by omega) (by simp; omega) ?_); intro v4 w4 qF hg4 _; have kD:=Y qF; have ud:=Y (((U HB).alloc qW _).grown hg4 (by rw [zh]; omega) (fun k hk=>((U HO).lt k hk).1)); clear qF hg4)
    go_roundw
    case rel=>exact ⟨k + 1,out ++ [k],by omega,by go_num,U HP1,by simp; omega,by show World.ownsRow _ _ _ _ _ _ _; simpa using U kD,U ud⟩
    case measure=>simp [intOf]; omega
   ·have HP1:Hid (dys l = out ++ dysF (l.drop (k + 1)) (k + 1)):=by
     have:=U HP
     rw [if_neg qq] at this
     exact this
    clear HP
    go_wp2_with fail
    go_roundw
    case rel=>exact ⟨k + 1,out,by omega,by go_num,U HP1,by omega,U HO,U HB⟩
    case measure=>simp [intOf]; omega
  ·have jh:k = l.length:=by omega
   have HE:Hid (dys l = out):=by
    have:=U jZ
    rw [xb (by omega)] at this
    show _ = _
    rw [this]; simp [dysF]
   have hge:¬ ((k:Int) < l.length):=by omega
   clear jZ xL jh
   go_wp2_with fail
   go_ret
   refine ⟨_,rfl,?_,U HB⟩
   rw [U HE]
   exact U HO
theorem specCut_any (s:ByteArray) (w:World) (hs:s.size ≤ maxLen) :
  Calls Tryz.prog 134 #[yk s] w fun e w'=>e = ym (yk (cutB s))∧w' = w:=by
 unfold maxLen at hs
 by_cases h:13 < s.size
 ·have HF:=Y (show cutB s = s.extract 0 13 from if_pos (by omega))
  have h':(13:Int) < s.size:=by omega
  go_enter Tryz.func134,Tryz.ntmps134
  go_wp2
  go_ret
  exact ⟨by rw [U HF]; rfl,rfl⟩
 ·have HF:Hid (cutB s = s):=by
   by_cases h3:s.size = 13
   ·exact cutB_one s h3
   ·exact if_neg (by omega)
  have h':(s.size:Int) ≤ 13:=by omega
  go_enter Tryz.func134,Tryz.ntmps134
  go_wp2
  go_ret
  exact ⟨by rw [U HF]; rfl,rfl⟩
theorem dG (c:Cm) (w:World) (hg:c.g.size ≤ maxLen) :
  Calls Tryz.prog 85 #[.agg (yx c.k c.s c.t c.l c.q c.i c.p c.g).toArray] w fun e w' =>
   e = ym (.agg (yx c.k c.s c.t c.l c.q c.i c.p (cutB c.g)).toArray)∧yn w w':=by
 obtain ⟨k,s,t,l,q,i,p,g⟩:=c
 have HS:=Y (fun W=>specCut_any g W hg)
 have hsf:=sfl
 simp only at *
 clear hg
 go_enter Tryz.func85,Tryz.ntmps85
 go_wp2_with (go_at_call 134; refine (U HS _).mono ?_; rintro e w' ⟨rfl,rfl⟩)
 go_returns
 refine ⟨rfl,?_⟩
 go_grown
end Go.Proofs.YtbakanofkghmiaaGreat
