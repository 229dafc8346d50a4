/-
  A list of orders without one of them, as the model makes it: proved by walking the function.
-/
import Derived.Test.YtdliebbfcmdmaaaGreatMj39
set_option linter.unusedVariables false
set_option maxHeartbeats 6400000
set_option maxRecDepth 100000
namespace Go.Proofs.YtdliebbfcmdmaaaGreat
open Go.RowKit
def C7o (b off n A i:Nat):Nat→Value→Prop
 | 1,v=>v = .slice (some (J b off)) n A
 | 2,v=>v = H i
 | 3,v=>v = .slice (some (J b off)) i A
 | 5,v=>v = .slice (some (J b off)) n A
 | 6,v=>v = H i
 | 7,v=>v = H ((i:Int) + 1)
 | 8,v=>∃ ad c,v = .slice (some ad) (n - (i + 1)) c∧(i + 1 < n→ad = (J b (off + (i + 1) * 6)))
 | _,_=>True
theorem l04Drop_any (b off A:Nat) (l:List Od) (i:Nat) (w:World) (hc:∀ j c,l[j]? = some c→w.rangeAt b (off + j * 6) c.vs) (L:b < w.heap.size) (hil:i < l.length) (vY:l.length ≤ A) (hn:l.length ≤ 1000) :
  Calls Tryz.prog 63 #[.slice (some (J b off)) l.length A,H i] w fun e w'=>∃ v',e = .returned v'∧ORow w' w.heap.size v' (l.take i ++ l.drop (i + 1))∧yn w w':=by
 obtain ⟨i0,uE,uA,uC,uM⟩:=info_parts Tryz.infoOrder
 have HC:=Y hc
 clear hc
 have hicp:i ≤ A:=by omega
 have pd:i + 1 ≤ l.length:=by omega
 have hi1':(i:Int) + 1 ≤ l.length:=by omega
 have vy:(i:Int) < l.length:=by omega
 have hige:(0:Int) ≤ i:=by omega
 have hlcp:(l.length:Int) ≤ A:=by omega
 have h0i:(0:Int) ≤ (i:Int) + 1:=by omega
 go_enter Tryz.func63,Tryz.ntmps63
 go_wp2_with fail
 refine dl (R7A (.slice none 0 0) w (C7o b off l.length A i) (l.take i) (l.take i ++ l.drop (i + 1)) (fun f=>{ tmps:=#[.slice (some (J b off)) l.length A,H i,M,M,f 10,f 0,f 1,f 2,f 3,f 4,f 5,f 6,f 7,f 8,f 9],defers:=[] })) (by kernel_rfl) ?_ ?_ ?_
 ·exact ⟨fun j=>if j = 10 then .slice none 0 0 else M,rfl,⟨⟨rfl,rfl,rfl,Nat.le_refl _,fun _ _=>rfl⟩,fun j R=>by rw [yI] at R; split at R <;> simp at R,fun _=>rfl,by simp,by simp,by simp,by simp,by simp,by simp,by simp⟩⟩
 ·rintro x xm V ⟨f,rfl,K⟩ hx xP
  have xp:=zT xP hx (acyc _ (by kernel_rfl))
  have k9:x[9]? = some true:=xp 9 (by simp)
  have k10:x[10]? = some true:=xp 10 (by simp)
  have HO9:=Y (K.m9 k9)
  have oD:f 10 = f 9:=K.m10 k10
  have xv:=Y K.bel
  simp only [oD]
  generalize f 9 = v9 at HO9 ⊢
  clear K xp k9 k10 oD xP hx
  go_wp2_with fail
  go_ret
  exact ⟨_,rfl,U HO9,U xv⟩
 ·rintro x xm V i' o' ⟨f,rfl,K⟩ hx Z xy D
  have qq:=Y K
  match i',Z with
  | 0,Z =>
   obtain rfl:=ya Z
   clear K D
   rw [if_pos (by rfl)];unfold Oper.wp;go_simp
   exact ⟨upd f 0 (.slice (some (J V.heap.size 0)) 0 0),by simp [upd],r7_0 (U qq) xy (fun _=>trivial)⟩
  | 1,Z =>
   obtain rfl:=ya Z
   clear K D
   rw [if_pos (by rfl)];unfold Oper.wp;go_simp
   exact ⟨upd f 1 (.slice (some (J b off)) l.length A),by simp [upd],bc (U qq) 1 _ rfl (by decide) (by decide) (by decide) (by decide)⟩
  | 2,Z =>
   obtain rfl:=ya Z
   clear K D
   rw [if_pos (by rfl)];unfold Oper.wp;go_simp
   exact ⟨upd f 2 (H i),by simp [upd],bc (U qq) 2 _ rfl (by decide) (by decide) (by decide) (by decide)⟩
  | 3,Z =>
   obtain rfl:=ya Z
   have g1:C7o b off l.length A i 1 (f 1):=K.c 1 (ye D 1 rfl)
   have g2:C7o b off l.length A i 2 (f 2):=K.c 2 (ye D 2 rfl)
   simp only [C7o] at g1 g2
   clear K D
   rw [if_pos (by rfl)];unfold Oper.wp;go_simp
   exact ⟨upd f 3 (.slice (some (J b off)) i A),by simp [upd,g1,g2],bc (U qq) 3 _ rfl (by decide) (by decide) (by decide) (by decide)⟩
  | 4,Z =>
   obtain rfl:=ya Z
   have g3:C7o b off l.length A i 3 (f 3):=K.c 3 (ye D 3 rfl)
   have k0:x[0]? = some true:=D ⟨0,.data⟩ (by simp) rfl
   have kp:Hid (∀ j c,l[j]? = some c→V.rangeAt b (off + j * 6) c.vs):=fun j c R=>zb (U HC j c R) K.bel L
   simp only [C7o] at g3
   clear K D
   rw [if_pos (by rfl)]
   refine wp_append_own V (.tmp 5) (.tmp 8) 29 rfl w.heap.size 66 i0 _ 6 56 Tryz.underlying29 uE uA uC uM rfl (by decide) (f 0) 0 [] rfl ((U qq).m0 k0 xy) (J b off) i A ((l.take i).flatMap Od.vs) g3 (by rw [zH Od.len,List.length_take]; congr 1; omega) (by simpa using cJ (W:=V) (g:=b) (off:=off) (l:=l) (U kp) 0 i) (bd _) (by unfold maxLen; omega) (by omega) (U qq).bel.size ?_
   intro v' w' xL ub _
   refine ⟨upd f 4 v',rfl,r7_4 (U qq) k0 xy (fun _=>trivial) ?_ ub⟩
   have xD:(l.take i).length = 0 + i:=by rw [List.length_take]; omega
   show w'.ownsRow _ _ _ _ (l.take i).length _
   rw [xD]; simpa using xL
  | 5,Z =>
   obtain rfl:=ya Z
   clear K D
   rw [if_pos (by rfl)];unfold Oper.wp;go_simp
   exact ⟨upd f 5 (.slice (some (J b off)) l.length A),by simp [upd],bc (U qq) 5 _ rfl (by decide) (by decide) (by decide) (by decide)⟩
  | 6,Z =>
   obtain rfl:=ya Z
   clear K D
   rw [if_pos (by rfl)];unfold Oper.wp;go_simp
   exact ⟨upd f 6 (H i),by simp [upd],bc (U qq) 6 _ rfl (by decide) (by decide) (by decide) (by decide)⟩
  | 7,Z =>
   obtain rfl:=ya Z
   have g6:C7o b off l.length A i 6 (f 6):=K.c 6 (ye D 6 rfl)
   simp only [C7o] at g6
   have hwr:IntKind.i64.wrap ((i:Int) + 1) = (i:Int) + 1:=by rw [IntKind.wrap_i64]; omega
   clear K D
   rw [if_pos (by rfl)];unfold Oper.wp;go_simp
   exact ⟨upd f 7 (H ((i:Int) + 1)),by simp [upd,g6],bc (U qq) 7 _ rfl (by decide) (by decide) (by decide) (by decide)⟩
  | 8,Z =>
   obtain rfl:=ya Z
   have g5:C7o b off l.length A i 5 (f 5):=K.c 5 (ye D 5 rfl)
   have g7:C7o b off l.length A i 7 (f 7):=K.c 7 (ye D 7 rfl)
   simp only [C7o] at g5 g7
   clear K D
   by_cases hcp:A = i + 1
   ·subst hcp
    rw [if_pos (by rfl)];unfold Oper.wp;go_simp
    exact ⟨upd f 8 (.slice (some (J b off)) (l.length - (i + 1)) 0),by simp [upd,g5,g7]; omega,bc (U qq) 8 _ ⟨_,_,rfl,fun h=>by omega⟩ (by decide) (by decide) (by decide) (by decide)⟩
   ·rw [if_pos (by rfl)];unfold Oper.wp;go_simp
    exact ⟨upd f 8 (.slice (some (J b (off + (i + 1) * 6))) (l.length - (i + 1)) (A - (i + 1))),by simp [upd,g5,g7],bc (U qq) 8 _ ⟨_,_,rfl,fun h=>rfl⟩ (by decide) (by decide) (by decide) (by decide)⟩
  | 9,Z =>
   obtain rfl:=ya Z
   have g8:C7o b off l.length A i 8 (f 8):=K.c 8 (ye D 8 rfl)
   have k4:x[4]? = some true:=D ⟨4,.data⟩ (by simp) rfl
   have kp:Hid (∀ j c,l[j]? = some c→V.rangeAt b (off + j * 6) c.vs):=fun j c R=>zb (U HC j c R) K.bel L
   obtain ⟨ad8,c8,g8,had⟩:=g8
   clear K D
   have hsrc8:∀ j u,((l.drop (i + 1)).flatMap Od.vs)[j]? = some u→V.cell? (ad8.add j) = some u:=by
    intro j u hu
    by_cases xK:i + 1 < l.length
    ·rw [had xK]
     have:=cJ (W:=V) (g:=b) (off:=off) (l:=l) (U kp) (i + 1) (l.length - (i + 1)) j u (by rw [yZ (by simp)]; exact hu)
     simpa using this
    ·rw [xa (by omega)] at hu; simp at hu
   rw [if_pos (by rfl)]
   refine wp_append_own V (.tmp 9) (.tmp 13) 29 rfl w.heap.size 66 i0 _ 6 56 Tryz.underlying29 uE uA uC uM rfl (by decide) (f 4) (l.take i).length ((l.take i).flatMap Od.vs) rfl ((U qq).m4 k4 xy) ad8 (l.length - (i + 1)) c8 ((l.drop (i + 1)).flatMap Od.vs) g8 (by rw [zH Od.len,List.length_drop]) hsrc8 (bd _) (by unfold maxLen; rw [List.length_take]; omega) (by rw [List.length_take]; omega) (U qq).bel.size ?_
   intro v' w' xL ub _
   refine ⟨upd f 9 v',rfl,r7_9 (U qq) k4 xy (fun _=>trivial) ?_ ub⟩
   show w'.ownsRow _ _ _ _ (l.take i ++ l.drop (i + 1)).length _
   rw [yP,List.length_drop,List.flatMap_append]
   exact xL
  | 10,Z =>
   obtain rfl:=ya Z
   have hA:∀ j,j < 10→x[j]? = some true:=fun j R=>D ⟨j,.phase⟩ (by
    match j,R with
    | 0,_=>simp
    | 1,_=>simp
    | 2,_=>simp
    | 3,_=>simp
    | 4,_=>simp
    | 5,_=>simp
    | 6,_=>simp
    | 7,_=>simp
    | 8,_=>simp
    | 9,_=>simp
    | n + 10,h=>omega) rfl
   clear K D
   rw [if_pos (by rfl)];unfold Oper.wp;go_simp
   exact ⟨upd f 10 (f 9),by simp [upd],r7_10 (U qq) hA xy (fun _=>trivial)⟩
  | n + 11,Z=>simp at Z
theorem infoIn:(Tryz.prog.info? 3).map (fun i=>(i.zero,i.size,i.bytes)) = some (some (H 0),1,8):=by kernel_rfl
def dysF:List Od→Nat→List Nat
 | [],_=>[]
 | o :: r,k=>if o.life = 1 then k :: dysF r (k + 1) else dysF r (k + 1)
def dys (l:List Od):List Nat:=dysF l 0
def nval (k:Nat):Value:=H k
abbrev IRow (W:World) (B:Nat) (v:Value) (l:List Nat):Prop:=W.ownsRow B 3 1 v l.length (l.map nval)
theorem drop_getD {l:List Od} {k:Nat} {c:Od} (h:l[k]? = some c):l.drop k = c :: l.drop (k + 1):=by
 obtain ⟨Q,rfl⟩:=yG.1 h
 exact xc Q
theorem l04Days_any (v:Value) (l:List Od) (w:World) (hr:RdR Od.vs 6 w v l) (hn:l.length ≤ 1000) :
  Calls Tryz.prog 64 #[v] w fun e w'=>∃ v',e = .returned v'∧IRow w' w.heap.size v' (dys l)∧yn w w':=by
 obtain ⟨a,A,rfl,xD,hc⟩:=hr
 obtain ⟨i0,uE,uA,uC,uM⟩:=info_parts infoIn
 have xq:∀ (k:Nat) (c:Od),l[k]? = some c→∃ b off,a = some (J b off)∧b < w.heap.size∧w.rangeAt b (off + k * 6) c.vs:=by
  intro k c hk
  obtain ⟨b,off,Q,N,h3⟩:=hc (by intro h; rw [h] at hk; simp at hk)
  exact ⟨b,off,Q,N,h3 k c hk⟩
 have HC:=Y xq
 clear xq hc
 have vG:=Y (World.ownsRow_made (base:=w.heap.size) (e:=3) (size:=1) w #[] 0 tg (by decide) rfl)
 have vj:Hid (yn w (w.alloc (E #[] 3))):=ed _ _
 go_enter Tryz.func64,Tryz.ntmps64
 go_wp2_with fail
 go_loopw [3,4] (fun ov iv wr=>∃ (k:Nat) (out:List Nat),k ≤ l.length∧iv = H k∧Hid (dys l = out ++ dysF (l.drop k) k)∧out.length ≤ k∧IRow wr w.heap.size ov out∧yn w wr) (fun _ iv _=>l.length - (intOf iv).toNat)
 case atStart=>exact ⟨0,[],Nat.zero_le _,rfl,rfl,Nat.le_refl _,U vG,U vj⟩
 case round =>
  obtain ⟨k,out,hk,rfl,jZ,pH,xL,xk⟩:=hrel
  have HB:=Y xk
  have HO:=Y xL
  have jJ:=xk.size
  clear xk xL vG vj
  by_cases xK:k < l.length
  ·obtain ⟨c,vd⟩:∃ c,l[k]? = some c:=⟨_,yH xK⟩
   have HP:Hid (dys l = out ++ if c.life = 1 then k :: dysF (l.drop (k + 1)) (k + 1) else dysF (l.drop (k + 1)) (k + 1)):=by
    have:=U jZ
    rw [drop_getD vd] at this
    exact this
   obtain ⟨b,off,rfl,L,xo⟩:=U HC k c vd
   obtain ⟨g0,g1,g2,g3,g4,g5⟩:=zC (zb xo (U HB) L)
   have uv:(k:Int) < l.length:=by omega
   clear vd xo L jZ
   by_cases qE:c.life = 1
   ·have HP1:Hid (dys l = (out ++ [k]) ++ dysF (l.drop (k + 1)) (k + 1)):=by
     have:=U HP
     rw [if_pos qE] at this
     show _ = _
     rw [this]; simp
    rw [qE] at g4
    clear HP qE
    go_wp2_with (at_builtin; go_must (refine wpList_append_own _ rfl _ _ 58 rfl w.heap.size 3 i0 _ 1 8 Tryz.underlying58 uE uA uC uM rfl (by decide) _ out.length (out.map nval) rfl ((U HO).alloc _) (J wr.heap.size 0) 1 1 [nval k] rfl rfl (bT wr _ _) (by simp [Value.oneCell',nval]) (by unfold maxLen; omega) (by omega) (by simp; omega) ?_); intro v4 w4 uR jX _; have oi:=Y uR; have un:=Y (((U HB).alloc jJ _).grown jX (by rw [ze]; omega) (fun k hk=>((U HO).lt k hk).1)); clear uR jX)
    go_roundw
    case rel=>exact ⟨k + 1,out ++ [k],by omega,by go_num,U HP1,by simp; omega,by show World.ownsRow _ _ _ _ _ _ _; simpa using U oi,U un⟩
    case measure=>simp [intOf]; omega
   ·have HP1:Hid (dys l = out ++ dysF (l.drop (k + 1)) (k + 1)):=by
     have:=U HP
     rw [if_neg qE] at this
     exact this
    clear HP
    go_wp2_with fail
    go_roundw
    case rel=>exact ⟨k + 1,out,by omega,by go_num,U HP1,by omega,U HO,U HB⟩
    case measure=>simp [intOf]; omega
  ·have je:k = l.length:=by omega
   have HE:Hid (dys l = out):=by
    have:=U jZ
    rw [xa (by omega)] at this
    show _ = _
    rw [this]; simp [dysF]
   have hge:¬ ((k:Int) < l.length):=by omega
   clear jZ xK je
   go_wp2_with fail
   go_ret
   refine ⟨_,rfl,?_,U HB⟩
   rw [U HE]
   exact U HO
theorem specCut_any (s:ByteArray) (w:World) (hs:s.size ≤ maxLen) :
  Calls Tryz.prog 91 #[yk s] w fun e w'=>e = ym (yk (cutB s))∧w' = w:=by
 unfold maxLen at hs
 by_cases h:13 < s.size
 ·have HF:=Y (show cutB s = s.extract 0 13 from if_pos (by omega))
  have h':(13:Int) < s.size:=by omega
  go_enter Tryz.func91,Tryz.ntmps91
  go_wp2
  go_ret
  exact ⟨by rw [U HF]; rfl,rfl⟩
 ·have HF:Hid (cutB s = s):=by
   by_cases h3:s.size = 13
   ·exact cutB_one s h3
   ·exact if_neg (by omega)
  have h':(s.size:Int) ≤ 13:=by omega
  go_enter Tryz.func91,Tryz.ntmps91
  go_wp2
  go_ret
  exact ⟨by rw [U HF]; rfl,rfl⟩
theorem dk (c:Cm) (w:World) (hg:c.g.size ≤ maxLen) :
  Calls Tryz.prog 62 #[.agg (yw c.k c.s c.t c.l c.q c.i c.p c.g).toArray] w fun e w' =>
   e = ym (.agg (yw c.k c.s c.t c.l c.q c.i c.p (cutB c.g)).toArray)∧yn w w':=by
 obtain ⟨k,s,t,l,q,i,p,g⟩:=c
 have HS:=Y (fun W=>specCut_any g W hg)
 have hsf:=sfl
 simp only at *
 clear hg
 go_enter Tryz.func62,Tryz.ntmps62
 go_wp2_with (go_at_call 91; refine (U HS _).mono ?_; rintro e w' ⟨rfl,rfl⟩)
 go_returns
 refine ⟨rfl,?_⟩
 go_grown
def aggL:Value→List Value
 | .agg xs=>xs.toList
 | _=>[]
def DS (S:Nat) (next:Int) (hb:List Od) (eg:List Ev):Nat→World→Value→Prop
 | 0,W,v=>ORow W S v hb∧∃ a c,v = .slice a hb.length c
 | 1,W,v=>∃ v4,v = .agg #[H next,v4]∧(∃ a c,v4 = .slice a hb.length c)∧ORow W S v4 hb
 | 2,W,v=>ERow W S v eg∧∃ a c,v = .slice a eg.length c
 | 3,W,v=>∃ b,v = .slice (some (J b 0)) 1 1∧b < W.heap.size∧S ≤ b∧W.rangeAt b 0 (eg.flatMap Ev.vs)
 | _,_,_=>True
def CX (vs:List Value) (ks:List (Nat × Nat)) (S:Nat) (next:Int) (hb:List Od) (eg:List Ev) (W:World) (j:Nat) (v:Value):Prop :=
 match ks.lookup j with
 | some d=>DS S next hb eg d W v
 | none=>∀ u,vs[j]? = some u→v = u
section
variable {vs:List Value} {ks:List (Nat × Nat)} {S hj:Nat} {next:Int} {hb:List Od} {eg:List Ev} {W W':World} {j d:Nat} {v u:Value}
theorem zQ (h:CX vs ks S next hb eg W j v) (hk:ks.lookup j = none) (hu:vs[j]? = some u):v = u:=by
 rw [CX,hk] at h; exact h u hu
theorem cx_sp (h:CX vs ks S next hb eg W j v) (hk:ks.lookup j = some d):DS S next hb eg d W v:=by
 rw [CX,hk] at h; exact h
theorem zU (hk:ks.lookup j = none) (hu:vs[j]? = some v):CX vs ks S next hb eg W j v:=by
 rw [CX,hk]; intro u h; rw [hu] at h; cases h; rfl
theorem bF (hk:ks.lookup j = some d) (hd:DS S next hb eg d W v):CX vs ks S next hb eg W j v:=by
 rw [CX,hk]; exact hd
theorem ds_mono (K:hj < S) (L:KB hj W W') (h:DS S next hb eg d W v):DS S next hb eg d W' v:=by
 match d with
 | 0=>exact ⟨kb_row h.1 L K,h.2⟩
 | 1=>obtain ⟨v4,Q,N,h3⟩:=h; exact ⟨v4,Q,N,kb_row h3 L K⟩
 | 2=>exact ⟨kb_row h.1 L K,h.2⟩
 | 3=>obtain ⟨b,Q,N,h3,h4⟩:=h; exact ⟨b,Q,yJ N L.size,h3,kb_range L h4 (by omega)⟩
 | d + 4=>trivial
theorem cE (K:hj < S):∀ W W' j v,KB hj W W'→CX vs ks S next hb eg W j v→CX vs ks S next hb eg W' j v:=by
 intro W W' j v L h
 unfold CX at h ⊢
 split at h
 ·exact ds_mono K L h
 ·exact h
theorem cx_monoB (hS:0 < S):∀ W W' j v,yn W W'→CX vs ks S next hb eg W j v→CX vs ks S next hb eg W' j v:=by
 intro W W' j v L h
 unfold CX at h ⊢
 split at h
 ·exact ds_mono hS (kb_below L) h
 ·exact h
end
theorem rowE_made {B e sz n:Nat} (W:World) (xs:List Value) (hB:B ≤ W.heap.size) (hn:n ≤ maxLen) (hl:xs.length = n * sz):(W.alloc (Obj.cells xs.toArray e)).ownsRow B e sz (.slice (some (yq W 0)) n n) n xs :=
 ⟨hl,.inr ⟨W.heap.size,n,xs.toArray,rfl,hB,heap_alloc_new W _,Nat.le_refl _,hn,by simpa using hl,by simp [← hl]⟩⟩
theorem eRow_one {B:Nat} (W:World) (e:Ev) (hB:B ≤ W.heap.size):ERow (W.alloc (Obj.cells e.vs.toArray 41)) B (.slice (some (yq W 0)) 1 1) [e]:=by
 have h:=rowE_made (B:=B) (e:=41) (sz:=14) (n:=1) W e.vs hB (by decide) (by rfl)
 have e1:[e].flatMap Ev.vs = e.vs:=by simp
 show World.ownsRow _ _ _ _ _ [e].length ([e].flatMap Ev.vs)
 rw [e1]
 exact h
theorem ref_newS {next:Int} {l:List Od} {c:Cm} (h:refR next l c = 0) (hk:c.k = 1):(c.s = 1 ∨ c.s = 2)∧prcB c = true∧tagB c.g = true∧c.i = 0:=by
 have h0:=h
 have h:=ref_new h hk
 rw [newR] at h
 split at h
 ·cases h
 rename_i Q
 split at h
 ·cases h
 split at h
 ·cases h
 split at h
 ·cases h
 rename_i h4
 split at h
 ·cases h
 split at h
 ·cases h
 rename_i h6
 refine ⟨side_of (by simpa using Q),by simpa using h4,by simpa using h6,?_⟩
 rw [← ref_eq,refS] at h0
 split at h0
 ·cases h0
 split at h0
 ·cases h0
 rename_i hf
 simp [aK,hk] at hf
 exact hf
def RAo (n:Nat) (v0:Value) (x:List Bool) (f:Nat→Value):Prop:=(x[n + 1]? = some true→f (n + 1) = f n)∧(x[n + 1]? = some false→f (n + 1) = v0)
def RYBA (qt:(Nat→Value)→Act) (C:World→Nat→Value→Prop) (n:Nat) (v0:Value) (h1:(Nat→Value)→World→Prop) (base:World) (x:List Bool) (xm:Act) (W:World):Prop:=∃ f,xm = qt f∧RY C n h1 base x f W∧RAo n v0 x f
theorem ryb_start {f:Nat→Value} {n k:Nat} {v0:Value} (h:f (n + 1) = v0):RAo n v0 (List.replicate k false) f:=⟨fun h=>by rw [yI] at h; split at h <;> simp at h,fun _=>h⟩
theorem zW {x:List Bool} {f:Nat→Value} {n i:Nat} {v0:Value} (v:Value) (h:RAo n v0 x f) (hi:i ≠ n) (vy:i ≠ n + 1):RAo n v0 (x.set i true) (upd f i v):=by
 rw [RAo,gq vy,zo _ _ (fun e=>vy e.symm),zo _ _ (fun e=>hi e.symm)]; exact h
theorem ryb_write {x:List Bool} {f:Nat→Value} {n:Nat} {v0:Value} (v:Value) (h:RAo n v0 x f) (hx:x[n + 1]? = some false):RAo n v0 (x.set n true) (upd f n v):=by
 rw [RAo,gq (by omega),zo _ _ (show n + 1 ≠ n by omega)]
 exact ⟨fun e=>(by rw [hx] at e; cases e),h.2⟩
theorem ryb_lay {x:List Bool} {f:Nat→Value} {n:Nat} {v0:Value} (hx:x[n + 1]? = some false):RAo n v0 (x.set (n + 1) true) (upd f (n + 1) (f n)):=by
 rw [RAo,gqs hx]
 exact ⟨fun _=>by rw [zn,zo _ _ (by omega)],fun e=>by cases e⟩
theorem row_src {B e sz n g c:Nat} {xs:List Value} {W:World} (h:W.ownsRow B e sz (.slice (some (J g 0)) n c) n xs):∀ j u,xs[j]? = some u→W.cell? (((J g 0):Addr).add j) = some u:=by
 intro j u hu
 rcases h.2 with ⟨Q,_⟩ | ⟨g',A,xr,Q,_,kM,_,_,om,hx⟩
 ·cases Q
 ·simp only [Value.slice.injEq,Option.some.injEq,Addr.mk.injEq,and_true,true_and] at Q
  obtain ⟨rfl,-⟩:=Q
  rw [Addr.add_mid,cell_of_row W g (0 + j) xr _ (0,0) kM]
  rw [← hx] at hu
  rw [List.getElem?_take] at hu
  split at hu
  ·simpa using hu
  ·cases hu
theorem take_nd {l:List Od} {j:Nat} {o:Od} (h:l[j]? = some o) (hd:o.life ≠ 1):(l.take (j + 1)).filter ndy = (l.take j).filter ndy ++ [o]:=by
 rw [List.take_add_one,h,List.filter_append]
 simp [ndy,hd]
theorem take_ny {l:List Od} {j:Nat} {o:Od} (h:l[j]? = some o) (hd:o.life = 1):(l.take (j + 1)).filter ndy = (l.take j).filter ndy:=by
 rw [List.take_add_one,h,List.filter_append]
 simp [ndy,hd]
theorem dysF_lenO:∀ (l:List Od) (k:Nat),(dysF l k).length = (l.filter dyB).length
 | [],_=>rfl
 | o :: r,k=>by
  rw [dysF,List.filter_cons]
  by_cases h:o.life = 1
  ·rw [if_pos h,if_pos (by simp [dyB,h])]; simp [dysF_lenO r]
  ·rw [if_neg h,if_neg (by simp [dyB,h])]; exact dysF_lenO r _
theorem cutB_tag {g:ByteArray} (h:tagB g = true):cutB g = g:=by
 simp only [tagB,xe,xh] at h
 rw [cutB,if_neg (by omega)]
structure RZ (C:Nat→Value→Prop) (B0:World) (hb:List Od) (t:Od) (x:List Bool) (f:Nat→Value) (W:World):Prop where
 bel:Below B0.heap.size B0 W
 c:∀ j,x[j]? = some true→C j (f j)
 m0:x[0]? = some true→x[2]? = some false→ORow W B0.heap.size (f 0) []
 m2:x[2]? = some true→x[5]? = some false→ORow W B0.heap.size (f 2) hb
 m4:x[4]? = some true→x[5]? = some false→∃ b,f 4 = .slice (some ⟨b,0,none⟩) 1 1∧b < W.heap.size∧B0.heap.size ≤ b∧W.rangeAt b 0 t.vs∧(x[0]? = some true→x[2]? = some false→(f 0).ownBlock ≠ some b)
 m5:x[5]? = some true→ORow W B0.heap.size (f 5) (hb ++ [t])
section
variable {C:Nat→Value→Prop} {B0 W W':World} {hb:List Od} {t:Od} {x:List Bool} {f:Nat→Value}
theorem rz_grow (h:RZ C B0 hb t x f W) (L:yn W W'):RZ C B0 hb t x f W' :=
 ⟨h.bel.trans (L.mono h.bel.size),h.c,fun a b=>zk (h.m0 a b) L,fun a b=>zk (h.m2 a b) L,fun a b=>by
  obtain ⟨b',Q,N,h3,h4,h5⟩:=h.m4 a b
  exact ⟨b',Q,yJ N L.size,h3,zb h4 L N,h5⟩,fun a=>zk (h.m5 a) L⟩
theorem rz_val (h:RZ C B0 hb t x f W) (i:Nat) (v:Value) (hv:C i v) (hh0:i ≠ 0) (ar:i ≠ 2) (hh4:i ≠ 4) (au:i ≠ 5):RZ C B0 hb t (x.set i true) (upd f i v) W:=by
 refine ⟨h.bel,zx h.c hv,?_,?_,?_,?_⟩ <;> simp only [gq hh0,gq ar,gq hh4,gq au,zo f v hh0.symm,zo f v ar.symm,zo f v hh4.symm,zo f v au.symm]
 ·exact h.m0
 ·exact h.m2
 ·exact h.m4
 ·exact h.m5
theorem rz_0 (h:RZ C B0 hb t x f W) (hh0:x[0]? = some false) (hc:∀ v,C 0 v):RZ C B0 hb t (x.set 0 true) (upd f 0 (.slice (some (yq W 0)) 0 0)) (W.alloc (E #[] 66)):=by
 have hg:=rz_grow h ((Below.refl W.heap.size W).alloc tg (E #[] 66))
 refine ⟨hg.bel,zx hg.c (hc _),?_,?_,?_,?_⟩
 ·intro _ _; rw [zn]; exact World.ownsRow_made W #[] 0 h.bel.size (by decide) rfl
 ·rw [gq (by decide),gq (by decide),zo _ _ (by decide)]; exact hg.m2
 ·intro hh4 au
  rw [gq (by decide)] at hh4 au
  obtain ⟨b,Q,N,h3,h4,h5⟩:=hg.m4 hh4 au
  obtain ⟨b',e1,e2,_⟩:=h.m4 hh4 au
  rw [Q] at e1
  simp only [Value.slice.injEq,Option.some.injEq,Addr.mk.injEq,and_true] at e1
  subst e1
  refine ⟨b,by rw [zo _ _ (by decide)]; exact Q,N,h3,h4,fun _ _ e=>?_⟩
  rw [zn] at e
  simp [Value.ownBlock] at e
  omega
 ·rw [gq (by decide),zo _ _ (by decide)]; exact hg.m5
theorem rz_2 (h:RZ C B0 hb t x f W) (hh0:x[0]? = some true) (ar:x[2]? = some false) (au:x[5]? = some false) (hc:∀ v,C 2 v) {v':Value} (Z:ORow W' B0.heap.size v' hb) (hg:W.grownBy W' (f 0).ownBlock):RZ C B0 hb t (x.set 2 true) (upd f 2 v') W':=by
 refine ⟨h.bel.grown hg h.bel.size (fun k hk=>((h.m0 hh0 ar).lt k hk).1),zx h.c (hc _),?_,?_,?_,?_⟩
 ·intro _ e; rw [gqs ar] at e; cases e
 ·intro _ _; rw [zn]; exact Z
 ·intro hh4 _
  rw [gq (by decide)] at hh4
  obtain ⟨b,Q,N,h3,h4,h5⟩:=h.m4 hh4 au
  refine ⟨b,by rw [zo _ _ (by decide)]; exact Q,yJ N hg.size,h3,zq h4 hg N (fun e=>h5 hh0 ar e.symm),fun _ e=>?_⟩
  rw [gqs ar] at e; cases e
 ·intro e; rw [gq (by decide),au] at e; cases e
theorem rz_4 (h:RZ C B0 hb t x f W) (hh4:x[4]? = some false) (au:x[5]? = some false) (hc:∀ v,C 4 v):RZ C B0 hb t (x.set 4 true) (upd f 4 (.slice (some (yq W 0)) 1 1)) (W.alloc (Obj.cells t.vs.toArray 66)):=by
 have hg:=rz_grow h ((Below.refl W.heap.size W).alloc tg (Obj.cells t.vs.toArray 66))
 refine ⟨hg.bel,zx hg.c (hc _),?_,?_,?_,?_⟩
 ·rw [gq (by decide),gq (by decide),zo _ _ (by decide)]; exact hg.m0
 ·rw [gq (by decide),gq (by decide),zo _ _ (by decide)]; exact hg.m2
 ·intro _ _
  refine ⟨W.heap.size,zn _ _ _,by rw [ze]; omega,h.bel.size,zg W t.vs _,fun hh0 ar e=>?_⟩
  rw [gq (by decide)] at hh0 ar
  rw [zo _ _ (by decide)] at e
  have:=((h.m0 hh0 ar).lt _ e).2
  omega
 ·rw [gq (by decide),zo _ _ (by decide)]; exact hg.m5
theorem rz_5 (h:RZ C B0 hb t x f W) (ar:x[2]? = some true) (au:x[5]? = some false) (hc:∀ v,C 5 v) {v':Value} (Z:ORow W' B0.heap.size v' (hb ++ [t])) (hg:W.grownBy W' (f 2).ownBlock):RZ C B0 hb t (x.set 5 true) (upd f 5 v') W':=by
 refine ⟨h.bel.grown hg h.bel.size (fun k hk=>((h.m2 ar au).lt k hk).1),zx h.c (hc _),?_,?_,?_,?_⟩
 ·intro _ e; rw [gq (by decide)] at e; rw [e] at ar; cases ar
 ·intro _ e; rw [gqs au] at e; cases e
 ·intro _ e; rw [gqs au] at e; cases e
 ·intro _; rw [zn]; exact Z
end
def RZBA (qt:(Nat→Value)→Act) (C:Nat→Value→Prop) (B0:World) (hb:List Od) (t:Od) (v0:Value) (x:List Bool) (xm:Act) (W:World):Prop:=∃ f,xm = qt f∧RZ C B0 hb t x f W∧RAo 5 v0 x f
theorem rz_start {C:Nat→Value→Prop} {B0:World} {hb:List Od} {t:Od} {f:Nat→Value} {k:Nat}:RZ C B0 hb t (List.replicate k false) f { B0 with drawn:=B0.drawn + 1 }:=by
 have ja:∀ j,(List.replicate k false)[j]? = some true→False:=fun j R=>by rw [yI] at R; split at R <;> simp at R
 exact ⟨⟨rfl,rfl,rfl,Nat.le_refl _,fun _ _=>rfl⟩,fun j R=>(ja j R).elim,fun h=>(ja _ h).elim,fun h=>(ja _ h).elim,fun h=>(ja _ h).elim,fun h=>(ja _ h).elim⟩
def CZ (lv tv:Value):Nat→Value→Prop
 | 1,v=>v = lv
 | 3,v=>v = tv
 | _,_=>True
theorem acc_l {c:Cm} {next:Int} {qt:List Od × Int × List Ev} (hp:prcB c = true):accL c next qt = if 0 < qt.2.1∧aA c.t = true then qt.1 ++ [⟨next,c.s,tkS c.p,qt.2.1,c.l,c.g⟩] else qt.1:=by
 rw [accL]
 by_cases hr:aA c.t = true
 ·have ht:tkOk c.p = true:=by
   rw [prcB,if_neg (by intro e; rw [aA,e] at hr; simp at hr)] at hp; exact hp
  rw [tkS_ok ht]
 ·rw [if_neg (fun h=>hr h.2),if_neg (fun h=>hr h.2)]
theorem one_allE (l:List Ev):∀ u ∈ l.flatMap Ev.vs,u.oneCell' = true:=by
 intro u hu
 obtain ⟨e,_,h⟩:=List.mem_flatMap.1 hu
 exact one_ev e u h
end Go.Proofs.YtdliebbfcmdmaaaGreat
