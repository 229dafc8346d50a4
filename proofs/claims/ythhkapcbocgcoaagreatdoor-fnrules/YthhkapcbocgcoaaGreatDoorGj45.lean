/-
  A list of orders without one of them, as the model makes it: proved by walking the function.
-/
import Derived.Test.YthhkapcbocgcoaaGreatDoorGj44
set_option linter.unusedVariables false
set_option maxHeartbeats 6400000
set_option maxRecDepth 100000
namespace Go.Proofs.YthhkapcbocgcoaaGreatDoor
open Go.RowKit
def C7o (b off n cap i:Nat):Nat→Value→Prop
 | 1,v=>v = .slice (some (J b off)) n cap
 | 2,v=>v = H i
 | 3,v=>v = .slice (some (J b off)) i cap
 | 5,v=>v = .slice (some (J b off)) n cap
 | 6,v=>v = H i
 | 7,v=>v = H ((i:Int) + 1)
 | 8,v=>∃ ad c,v = .slice (some ad) (n - (i + 1)) c∧(i + 1 < n→ad = (J b (off + (i + 1) * 6)))
 | _,_=>True
theorem l04Drop_any (b off cap:Nat) (l:List Od) (i:Nat) (w:World) (hc:∀ j c,l[j]? = some c→w.rangeAt b (off + j * 6) c.vs) (A:b < w.heap.size) (hil:i < l.length) (uq:l.length ≤ cap) (hn:l.length ≤ 1000) :
  Calls Tryz.prog 38 #[.slice (some (J b off)) l.length cap,H i] w fun e w'=>∃ v',e = .returned v'∧ORow w' w.heap.size v' (l.take i ++ l.drop (i + 1))∧yn w w':=by
 obtain ⟨i0,uJ,uD,uz,uM⟩:=info_parts Tryz.infoOrder
 have HC:=M hc
 clear hc
 have hicp:i ≤ cap:=by omega
 have hi1:i + 1 ≤ l.length:=by omega
 have hi1':(i:Int) + 1 ≤ l.length:=by omega
 have qD:(i:Int) < l.length:=by omega
 have hige:(0:Int) ≤ i:=by omega
 have hlcp:(l.length:Int) ≤ cap:=by omega
 have h0i:(0:Int) ≤ (i:Int) + 1:=by omega
 go_enter Tryz.func38,Tryz.ntmps38
 go_wp2_with fail
 refine fu (R7A (.slice none 0 0) w (C7o b off l.length cap i) (l.take i) (l.take i ++ l.drop (i + 1)) (fun f=>{ tmps:=#[.slice (some (J b off)) l.length cap,H i,Z,Z,f 10,f 0,f 1,f 2,f 3,f 4,f 5,f 6,f 7,f 8,f 9],defers:=[] })) (by kernel_rfl) ?_ ?_ ?_
 ·exact ⟨fun j=>if j = 10 then .slice none 0 0 else Z,rfl,⟨⟨rfl,rfl,rfl,Nat.le_refl _,fun _ _=>rfl⟩,fun j hj=>by rw [yJ] at hj; split at hj <;> simp at hj,fun _=>rfl,by simp,by simp,by simp,by simp,by simp,by simp,by simp⟩⟩
 ·rintro x hb V ⟨f,rfl,F⟩ hx xN
  have xp:=zX xN hx (acyc _ (by kernel_rfl))
  have k9:x[9]? = some true:=xp 9 (by simp)
  have k10:x[10]? = some true:=xp 10 (by simp)
  have ay:=M (F.m9 k9)
  have vy:f 10 = f 9:=F.m10 k10
  have xw:=M F.bel
  simp only [vy]
  generalize f 9 = v9 at ay ⊢
  clear F xp k9 k10 vy xN hx
  go_wp2_with fail
  go_ret
  exact ⟨_,rfl,U ay,U xw⟩
 ·rintro x hb V i' o' ⟨f,rfl,F⟩ hx Y xu K
  have qF:=M F
  match i',Y with
  | 0,Y =>
   obtain rfl:=ya Y
   clear F K
   rw [if_pos (by rfl)];unfold Oper.wp;go_simp
   exact ⟨upd f 0 (.slice (some (J V.heap.size 0)) 0 0),by simp [upd],r7_0 (U qF) xu (fun _=>trivial)⟩
  | 1,Y =>
   obtain rfl:=ya Y
   clear F K
   rw [if_pos (by rfl)];unfold Oper.wp;go_simp
   exact ⟨upd f 1 (.slice (some (J b off)) l.length cap),by simp [upd],cW (U qF) 1 _ rfl (by decide) (by decide) (by decide) (by decide)⟩
  | 2,Y =>
   obtain rfl:=ya Y
   clear F K
   rw [if_pos (by rfl)];unfold Oper.wp;go_simp
   exact ⟨upd f 2 (H i),by simp [upd],cW (U qF) 2 _ rfl (by decide) (by decide) (by decide) (by decide)⟩
  | 3,Y =>
   obtain rfl:=ya Y
   have g1:C7o b off l.length cap i 1 (f 1):=F.c 1 (ye K 1 rfl)
   have g2:C7o b off l.length cap i 2 (f 2):=F.c 2 (ye K 2 rfl)
   simp only [C7o] at g1 g2
   clear F K
   rw [if_pos (by rfl)];unfold Oper.wp;go_simp
   exact ⟨upd f 3 (.slice (some (J b off)) i cap),by simp [upd,g1,g2],cW (U qF) 3 _ rfl (by decide) (by decide) (by decide) (by decide)⟩
  | 4,Y =>
   obtain rfl:=ya Y
   have g3:C7o b off l.length cap i 3 (f 3):=F.c 3 (ye K 3 rfl)
   have k0:x[0]? = some true:=K ⟨0,.data⟩ (by simp) rfl
   have HCV:Hid (∀ j c,l[j]? = some c→V.rangeAt b (off + j * 6) c.vs):=fun j c hj=>zc (U HC j c hj) F.bel A
   simp only [C7o] at g3
   clear F K
   rw [if_pos (by rfl)]
   refine wp_append_own V (.tmp 5) (.tmp 8) 25 rfl w.heap.size 65 i0 _ 6 56 Tryz.underlying25 uJ uD uz uM rfl (by decide) (f 0) 0 [] rfl ((U qF).m0 k0 xu) (J b off) i cap ((l.take i).flatMap Od.vs) g3 (by rw [zL Od.len,List.length_take]; congr 1; omega) (by simpa using eZ (W:=V) (g:=b) (off:=off) (l:=l) (U HCV) 0 i) (dj _) (by unfold maxLen; omega) (by omega) (U qF).bel.size ?_
   intro v' w' xS uZ _
   refine ⟨upd f 4 v',rfl,r7_4 (U qF) k0 xu (fun _=>trivial) ?_ uZ⟩
   have xD:(l.take i).length = 0 + i:=by rw [List.length_take]; omega
   show w'.ownsRow _ _ _ _ (l.take i).length _
   rw [xD]; simpa using xS
  | 5,Y =>
   obtain rfl:=ya Y
   clear F K
   rw [if_pos (by rfl)];unfold Oper.wp;go_simp
   exact ⟨upd f 5 (.slice (some (J b off)) l.length cap),by simp [upd],cW (U qF) 5 _ rfl (by decide) (by decide) (by decide) (by decide)⟩
  | 6,Y =>
   obtain rfl:=ya Y
   clear F K
   rw [if_pos (by rfl)];unfold Oper.wp;go_simp
   exact ⟨upd f 6 (H i),by simp [upd],cW (U qF) 6 _ rfl (by decide) (by decide) (by decide) (by decide)⟩
  | 7,Y =>
   obtain rfl:=ya Y
   have g6:C7o b off l.length cap i 6 (f 6):=F.c 6 (ye K 6 rfl)
   simp only [C7o] at g6
   have bd:IntKind.i64.wrap ((i:Int) + 1) = (i:Int) + 1:=by rw [IntKind.wrap_i64]; omega
   clear F K
   rw [if_pos (by rfl)];unfold Oper.wp;go_simp
   exact ⟨upd f 7 (H ((i:Int) + 1)),by simp [upd,g6],cW (U qF) 7 _ rfl (by decide) (by decide) (by decide) (by decide)⟩
  | 8,Y =>
   obtain rfl:=ya Y
   have g5:C7o b off l.length cap i 5 (f 5):=F.c 5 (ye K 5 rfl)
   have g7:C7o b off l.length cap i 7 (f 7):=F.c 7 (ye K 7 rfl)
   simp only [C7o] at g5 g7
   clear F K
   by_cases hcp:cap = i + 1
   ·subst hcp
    rw [if_pos (by rfl)];unfold Oper.wp;go_simp
    exact ⟨upd f 8 (.slice (some (J b off)) (l.length - (i + 1)) 0),by simp [upd,g5,g7]; omega,cW (U qF) 8 _ ⟨_,_,rfl,fun h=>by omega⟩ (by decide) (by decide) (by decide) (by decide)⟩
   ·rw [if_pos (by rfl)];unfold Oper.wp;go_simp
    exact ⟨upd f 8 (.slice (some (J b (off + (i + 1) * 6))) (l.length - (i + 1)) (cap - (i + 1))),by simp [upd,g5,g7],cW (U qF) 8 _ ⟨_,_,rfl,fun h=>rfl⟩ (by decide) (by decide) (by decide) (by decide)⟩
  | 9,Y =>
   obtain rfl:=ya Y
   have g8:C7o b off l.length cap i 8 (f 8):=F.c 8 (ye K 8 rfl)
   have k4:x[4]? = some true:=K ⟨4,.data⟩ (by simp) rfl
   have HCV:Hid (∀ j c,l[j]? = some c→V.rangeAt b (off + j * 6) c.vs):=fun j c hj=>zc (U HC j c hj) F.bel A
   obtain ⟨ad8,c8,g8,had⟩:=g8
   clear F K
   have hsrc8:∀ j u,((l.drop (i + 1)).flatMap Od.vs)[j]? = some u→V.cell? (ad8.add j) = some u:=by
    intro j u hu
    by_cases xM:i + 1 < l.length
    ·rw [had xM]
     have:=eZ (W:=V) (g:=b) (off:=off) (l:=l) (U HCV) (i + 1) (l.length - (i + 1)) j u (by rw [xa (by simp)]; exact hu)
     simpa using this
    ·rw [xb (by omega)] at hu; simp at hu
   rw [if_pos (by rfl)]
   refine wp_append_own V (.tmp 9) (.tmp 13) 25 rfl w.heap.size 65 i0 _ 6 56 Tryz.underlying25 uJ uD uz uM rfl (by decide) (f 4) (l.take i).length ((l.take i).flatMap Od.vs) rfl ((U qF).m4 k4 xu) ad8 (l.length - (i + 1)) c8 ((l.drop (i + 1)).flatMap Od.vs) g8 (by rw [zL Od.len,List.length_drop]) hsrc8 (dj _) (by unfold maxLen; rw [List.length_take]; omega) (by rw [List.length_take]; omega) (U qF).bel.size ?_
   intro v' w' xS uZ _
   refine ⟨upd f 9 v',rfl,r7_9 (U qF) k4 xu (fun _=>trivial) ?_ uZ⟩
   show w'.ownsRow _ _ _ _ (l.take i ++ l.drop (i + 1)).length _
   rw [yQ,List.length_drop,List.flatMap_append]
   exact xS
  | 10,Y =>
   obtain rfl:=ya Y
   have hA:∀ j,j < 10→x[j]? = some true:=fun j hj=>K ⟨j,.phase⟩ (by
    match j,hj with
    | 0,_=>simp
    | 1,_=>simp
    | 2,_=>simp
    | 3,_=>simp
    | 4,_=>simp
    | 5,_=>simp
    | 6,_=>simp
    | 7,_=>simp
    | 8,_=>simp
    | 9,_=>simp
    | n + 10,h=>omega) rfl
   clear F K
   rw [if_pos (by rfl)];unfold Oper.wp;go_simp
   exact ⟨upd f 10 (f 9),by simp [upd],r7_10 (U qF) hA xu (fun _=>trivial)⟩
  | n + 11,Y=>simp at Y
theorem specCut_any (s:ByteArray) (w:World) (hs:s.size ≤ maxLen) :
  Calls Tryz.prog 69 #[yk s] w fun e w'=>e = ym (yk (cutB s))∧w' = w:=by
 unfold maxLen at hs
 by_cases h:13 < s.size
 ·have HF:=M (show cutB s = s.extract 0 13 from if_pos (by omega))
  have h':(13:Int) < s.size:=by omega
  go_enter Tryz.func69,Tryz.ntmps69
  go_wp2
  go_ret
  exact ⟨by rw [U HF]; rfl,rfl⟩
 ·have HF:Hid (cutB s = s):=by
   by_cases X:s.size = 13
   ·exact cutB_one s X
   ·exact if_neg (by omega)
  have h':(s.size:Int) ≤ 13:=by omega
  go_enter Tryz.func69,Tryz.ntmps69
  go_wp2
  go_ret
  exact ⟨by rw [U HF]; rfl,rfl⟩
theorem fN (c:Cm) (w:World) (hg:c.g.size ≤ maxLen) :
  Calls Tryz.prog 36 #[.agg (yx c.k c.s c.t c.l c.q c.i c.p c.g).toArray] w fun e w' =>
   e = ym (.agg (yx c.k c.s c.t c.l c.q c.i c.p (cutB c.g)).toArray)∧yn w w':=by
 obtain ⟨k,s,t,l,q,i,p,g⟩:=c
 have HS:=M (fun W=>specCut_any g W hg)
 have hsf:=sfl
 simp only at *
 clear hg
 go_enter Tryz.func36,Tryz.ntmps36
 go_wp2_with (go_at_call 69; refine (U HS _).mono ?_; rintro e w' ⟨rfl,rfl⟩)
 go_returns
 refine ⟨rfl,?_⟩
 go_grown
def aggL:Value→List Value
 | .agg xs=>xs.toList
 | _=>[]
def DS (S:Nat) (next:Int) (L:List Od) (hk:List Ev):Nat→World→Value→Prop
 | 0,W,v=>ORow W S v L∧∃ a c,v = .slice a L.length c
 | 1,W,v=>∃ v4,v = .agg #[H next,v4]∧(∃ a c,v4 = .slice a L.length c)∧ORow W S v4 L
 | 2,W,v=>ERow W S v hk∧∃ a c,v = .slice a hk.length c
 | 3,W,v=>∃ b,v = .slice (some (J b 0)) 1 1∧b < W.heap.size∧S ≤ b∧W.rangeAt b 0 (hk.flatMap Ev.vs)
 | _,_,_=>True
def CX (vs:List Value) (ks:List (Nat × Nat)) (S:Nat) (next:Int) (L:List Od) (hk:List Ev) (W:World) (j:Nat) (v:Value):Prop :=
 match ks.lookup j with
 | some d=>DS S next L hk d W v
 | none=>∀ u,vs[j]? = some u→v = u
section
variable {vs:List Value} {ks:List (Nat × Nat)} {S R:Nat} {next:Int} {L:List Od} {hk:List Ev} {W W':World} {j d:Nat} {v u:Value}
theorem zP (h:CX vs ks S next L hk W j v) (E:ks.lookup j = none) (hu:vs[j]? = some u):v = u:=by
 rw [CX,E] at h; exact h u hu
theorem cx_sp (h:CX vs ks S next L hk W j v) (E:ks.lookup j = some d):DS S next L hk d W v:=by
 rw [CX,E] at h; exact h
theorem zT (E:ks.lookup j = none) (hu:vs[j]? = some v):CX vs ks S next L hk W j v:=by
 rw [CX,E]; intro u h; rw [hu] at h; cases h; rfl
theorem dM (E:ks.lookup j = some d) (hd:DS S next L hk d W v):CX vs ks S next L hk W j v:=by
 rw [CX,E]; exact hd
theorem ds_mono (F:R < S) (A:KB R W W') (h:DS S next L hk d W v):DS S next L hk d W' v:=by
 match d with
 | 0=>exact ⟨kb_row h.1 A F,h.2⟩
 | 1=>obtain ⟨v4,Q,D,X⟩:=h; exact ⟨v4,Q,D,kb_row X A F⟩
 | 2=>exact ⟨kb_row h.1 A F,h.2⟩
 | 3=>obtain ⟨b,Q,D,X,h4⟩:=h; exact ⟨b,Q,yK D A.size,X,kb_range A h4 (by omega)⟩
 | d + 4=>trivial
theorem eL (F:R < S):∀ W W' j v,KB R W W'→CX vs ks S next L hk W j v→CX vs ks S next L hk W' j v:=by
 intro W W' j v A h
 unfold CX at h ⊢
 split at h
 ·exact ds_mono F A h
 ·exact h
theorem cx_monoB (hS:0 < S):∀ W W' j v,yn W W'→CX vs ks S next L hk W j v→CX vs ks S next L hk W' j v:=by
 intro W W' j v A h
 unfold CX at h ⊢
 split at h
 ·exact ds_mono hS (kb_below A) h
 ·exact h
end
theorem rowE_made {B e sz n:Nat} (W:World) (xs:List Value) (hB:B ≤ W.heap.size) (hn:n ≤ maxLen) (hl:xs.length = n * sz):(W.alloc (Obj.cells xs.toArray e)).ownsRow B e sz (.slice (some (yq W 0)) n n) n xs :=
 ⟨hl,.inr ⟨W.heap.size,n,xs.toArray,rfl,hB,heap_alloc_new W _,Nat.le_refl _,hn,by simpa using hl,by simp [← hl]⟩⟩
theorem eRow_one {B:Nat} (W:World) (e:Ev) (hB:B ≤ W.heap.size):ERow (W.alloc (Obj.cells e.vs.toArray 37)) B (.slice (some (yq W 0)) 1 1) [e]:=by
 have h:=rowE_made (B:=B) (e:=37) (sz:=14) (n:=1) W e.vs hB (by decide) (by rfl)
 have e1:[e].flatMap Ev.vs = e.vs:=by simp
 show World.ownsRow _ _ _ _ _ [e].length ([e].flatMap Ev.vs)
 rw [e1]
 exact h
theorem ref_newS {next:Int} {l:List Od} {c:Cm} (h:refR next l c = 0) (E:c.k = 1):(c.s = 1 ∨ c.s = 2)∧prcB c = true∧tagB c.g = true∧c.i = 0:=by
 have h0:=h
 have h:=ref_new h E
 rw [newR] at h
 split at h
 ·cases h
 rename_i Q
 split at h
 ·cases h
 split at h
 ·cases h
 split at h
 ·cases h
 rename_i h4
 split at h
 ·cases h
 split at h
 ·cases h
 rename_i h6
 refine ⟨side_of (by simpa using Q),by simpa using h4,by simpa using h6,?_⟩
 rw [← ref_eq,refS] at h0
 split at h0
 ·cases h0
 split at h0
 ·cases h0
 rename_i hf
 simp [cx,E] at hf
 exact hf
def RAo (n:Nat) (v0:Value) (x:List Bool) (f:Nat→Value):Prop:=(x[n + 1]? = some true→f (n + 1) = f n)∧(x[n + 1]? = some false→f (n + 1) = v0)
def RYBA (hR:(Nat→Value)→Act) (C:World→Nat→Value→Prop) (n:Nat) (v0:Value) (h1:(Nat→Value)→World→Prop) (base:World) (x:List Bool) (hb:Act) (W:World):Prop:=∃ f,hb = hR f∧RY C n h1 base x f W∧RAo n v0 x f
theorem ryb_start {f:Nat→Value} {n k:Nat} {v0:Value} (h:f (n + 1) = v0):RAo n v0 (List.replicate k false) f:=⟨fun h=>by rw [yJ] at h; split at h <;> simp at h,fun _=>h⟩
theorem zZ {x:List Bool} {f:Nat→Value} {n i:Nat} {v0:Value} (v:Value) (h:RAo n v0 x f) (hi:i ≠ n) (qD:i ≠ n + 1):RAo n v0 (x.set i true) (upd f i v):=by
 rw [RAo,gq qD,zq _ _ (fun e=>qD e.symm),zq _ _ (fun e=>hi e.symm)]; exact h
theorem ryb_write {x:List Bool} {f:Nat→Value} {n:Nat} {v0:Value} (v:Value) (h:RAo n v0 x f) (hx:x[n + 1]? = some false):RAo n v0 (x.set n true) (upd f n v):=by
 rw [RAo,gq (by omega),zq _ _ (show n + 1 ≠ n by omega)]
 exact ⟨fun e=>(by rw [hx] at e; cases e),h.2⟩
theorem ryb_lay {x:List Bool} {f:Nat→Value} {n:Nat} {v0:Value} (hx:x[n + 1]? = some false):RAo n v0 (x.set (n + 1) true) (upd f (n + 1) (f n)):=by
 rw [RAo,gqs hx]
 exact ⟨fun _=>by rw [zt,zq _ _ (by omega)],fun e=>by cases e⟩
theorem row_src {B e sz n g c:Nat} {xs:List Value} {W:World} (h:W.ownsRow B e sz (.slice (some (J g 0)) n c) n xs):∀ j u,xs[j]? = some u→W.cell? (((J g 0):Addr).add j) = some u:=by
 intro j u hu
 rcases h.2 with ⟨Q,_⟩ | ⟨g',cap,xz,Q,_,hgg,_,_,hcs,hx⟩
 ·cases Q
 ·simp only [Value.slice.injEq,Option.some.injEq,Addr.mk.injEq,and_true,true_and] at Q
  obtain ⟨rfl,-⟩:=Q
  rw [Addr.add_mid,cell_of_row W g (0 + j) xz _ (0,0) hgg]
  rw [← hx] at hu
  rw [List.getElem?_take] at hu
  split at hu
  ·simpa using hu
  ·cases hu
theorem take_nd {l:List Od} {j:Nat} {o:Od} (h:l[j]? = some o) (hd:o.life ≠ 1):(l.take (j + 1)).filter ndy = (l.take j).filter ndy ++ [o]:=by
 rw [List.take_add_one,h,List.filter_append]
 simp [ndy,hd]
theorem take_ny {l:List Od} {j:Nat} {o:Od} (h:l[j]? = some o) (hd:o.life = 1):(l.take (j + 1)).filter ndy = (l.take j).filter ndy:=by
 rw [List.take_add_one,h,List.filter_append]
 simp [ndy,hd]
theorem dysF_lenO:∀ (l:List Od) (k:Nat),(dysF l k).length = (l.filter dyB).length
 | [],_=>rfl
 | o :: r,k=>by
  rw [dysF,List.filter_cons]
  by_cases h:o.life = 1
  ·rw [if_pos h,if_pos (by simp [dyB,h])]; simp [dysF_lenO r]
  ·rw [if_neg h,if_neg (by simp [dyB,h])]; exact dysF_lenO r _
theorem cutB_tag {g:ByteArray} (h:tagB g = true):cutB g = g:=by
 simp only [tagB,xf,xg] at h
 rw [cutB,if_neg (by omega)]
structure RZ (C:Nat→Value→Prop) (B0:World) (L:List Od) (t:Od) (x:List Bool) (f:Nat→Value) (W:World):Prop where
 bel:Below B0.heap.size B0 W
 c:∀ j,x[j]? = some true→C j (f j)
 m0:x[0]? = some true→x[2]? = some false→ORow W B0.heap.size (f 0) []
 m2:x[2]? = some true→x[5]? = some false→ORow W B0.heap.size (f 2) L
 m4:x[4]? = some true→x[5]? = some false→∃ b,f 4 = .slice (some ⟨b,0,none⟩) 1 1∧b < W.heap.size∧B0.heap.size ≤ b∧W.rangeAt b 0 t.vs∧(x[0]? = some true→x[2]? = some false→(f 0).ownBlock ≠ some b)
 m5:x[5]? = some true→ORow W B0.heap.size (f 5) (L ++ [t])
section
variable {C:Nat→Value→Prop} {B0 W W':World} {L:List Od} {t:Od} {x:List Bool} {f:Nat→Value}
theorem rz_grow (h:RZ C B0 L t x f W) (A:yn W W'):RZ C B0 L t x f W' :=
 ⟨h.bel.trans (A.mono h.bel.size),h.c,fun a b=>zp (h.m0 a b) A,fun a b=>zp (h.m2 a b) A,fun a b=>by
  obtain ⟨b',Q,D,X,h4,h5⟩:=h.m4 a b
  exact ⟨b',Q,yK D A.size,X,zc h4 A D,h5⟩,fun a=>zp (h.m5 a) A⟩
theorem rz_val (h:RZ C B0 L t x f W) (i:Nat) (v:Value) (hv:C i v) (hh0:i ≠ 0) (bI:i ≠ 2) (hh4:i ≠ 4) (bJ:i ≠ 5):RZ C B0 L t (x.set i true) (upd f i v) W:=by
 refine ⟨h.bel,zF h.c hv,?_,?_,?_,?_⟩ <;> simp only [gq hh0,gq bI,gq hh4,gq bJ,zq f v hh0.symm,zq f v bI.symm,zq f v hh4.symm,zq f v bJ.symm]
 ·exact h.m0
 ·exact h.m2
 ·exact h.m4
 ·exact h.m5
theorem rz_0 (h:RZ C B0 L t x f W) (hh0:x[0]? = some false) (hc:∀ v,C 0 v):RZ C B0 L t (x.set 0 true) (upd f 0 (.slice (some (yq W 0)) 0 0)) (W.alloc (O #[] 65)):=by
 have hg:=rz_grow h ((Below.refl W.heap.size W).alloc hU (O #[] 65))
 refine ⟨hg.bel,zF hg.c (hc _),?_,?_,?_,?_⟩
 ·intro _ _; rw [zt]; exact World.ownsRow_made W #[] 0 h.bel.size (by decide) rfl
 ·rw [gq (by decide),gq (by decide),zq _ _ (by decide)]; exact hg.m2
 ·intro hh4 bJ
  rw [gq (by decide)] at hh4 bJ
  obtain ⟨b,Q,D,X,h4,h5⟩:=hg.m4 hh4 bJ
  obtain ⟨b',e1,e2,_⟩:=h.m4 hh4 bJ
  rw [Q] at e1
  simp only [Value.slice.injEq,Option.some.injEq,Addr.mk.injEq,and_true] at e1
  subst e1
  refine ⟨b,by rw [zq _ _ (by decide)]; exact Q,D,X,h4,fun _ _ e=>?_⟩
  rw [zt] at e
  simp [Value.ownBlock] at e
  omega
 ·rw [gq (by decide),zq _ _ (by decide)]; exact hg.m5
theorem rz_2 (h:RZ C B0 L t x f W) (hh0:x[0]? = some true) (bI:x[2]? = some false) (bJ:x[5]? = some false) (hc:∀ v,C 2 v) {v':Value} (Y:ORow W' B0.heap.size v' L) (hg:W.grownBy W' (f 0).ownBlock):RZ C B0 L t (x.set 2 true) (upd f 2 v') W':=by
 refine ⟨h.bel.grown hg h.bel.size (fun k E=>((h.m0 hh0 bI).lt k E).1),zF h.c (hc _),?_,?_,?_,?_⟩
 ·intro _ e; rw [gqs bI] at e; cases e
 ·intro _ _; rw [zt]; exact Y
 ·intro hh4 _
  rw [gq (by decide)] at hh4
  obtain ⟨b,Q,D,X,h4,h5⟩:=h.m4 hh4 bJ
  refine ⟨b,by rw [zq _ _ (by decide)]; exact Q,yK D hg.size,X,zv h4 hg D (fun e=>h5 hh0 bI e.symm),fun _ e=>?_⟩
  rw [gqs bI] at e; cases e
 ·intro e; rw [gq (by decide),bJ] at e; cases e
theorem rz_4 (h:RZ C B0 L t x f W) (hh4:x[4]? = some false) (bJ:x[5]? = some false) (hc:∀ v,C 4 v):RZ C B0 L t (x.set 4 true) (upd f 4 (.slice (some (yq W 0)) 1 1)) (W.alloc (Obj.cells t.vs.toArray 65)):=by
 have hg:=rz_grow h ((Below.refl W.heap.size W).alloc hU (Obj.cells t.vs.toArray 65))
 refine ⟨hg.bel,zF hg.c (hc _),?_,?_,?_,?_⟩
 ·rw [gq (by decide),gq (by decide),zq _ _ (by decide)]; exact hg.m0
 ·rw [gq (by decide),gq (by decide),zq _ _ (by decide)]; exact hg.m2
 ·intro _ _
  refine ⟨W.heap.size,zt _ _ _,by rw [zi]; omega,h.bel.size,zm W t.vs _,fun hh0 bI e=>?_⟩
  rw [gq (by decide)] at hh0 bI
  rw [zq _ _ (by decide)] at e
  have:=((h.m0 hh0 bI).lt _ e).2
  omega
 ·rw [gq (by decide),zq _ _ (by decide)]; exact hg.m5
theorem rz_5 (h:RZ C B0 L t x f W) (bI:x[2]? = some true) (bJ:x[5]? = some false) (hc:∀ v,C 5 v) {v':Value} (Y:ORow W' B0.heap.size v' (L ++ [t])) (hg:W.grownBy W' (f 2).ownBlock):RZ C B0 L t (x.set 5 true) (upd f 5 v') W':=by
 refine ⟨h.bel.grown hg h.bel.size (fun k E=>((h.m2 bI bJ).lt k E).1),zF h.c (hc _),?_,?_,?_,?_⟩
 ·intro _ e; rw [gq (by decide)] at e; rw [e] at bI; cases bI
 ·intro _ e; rw [gqs bJ] at e; cases e
 ·intro _ e; rw [gqs bJ] at e; cases e
 ·intro _; rw [zt]; exact Y
end
def RZBA (hR:(Nat→Value)→Act) (C:Nat→Value→Prop) (B0:World) (L:List Od) (t:Od) (v0:Value) (x:List Bool) (hb:Act) (W:World):Prop:=∃ f,hb = hR f∧RZ C B0 L t x f W∧RAo 5 v0 x f
theorem rz_start {C:Nat→Value→Prop} {B0:World} {L:List Od} {t:Od} {f:Nat→Value} {k:Nat}:RZ C B0 L t (List.replicate k false) f { B0 with drawn:=B0.drawn + 1 }:=by
 have qY:∀ j,(List.replicate k false)[j]? = some true→False:=fun j hj=>by rw [yJ] at hj; split at hj <;> simp at hj
 exact ⟨⟨rfl,rfl,rfl,Nat.le_refl _,fun _ _=>rfl⟩,fun j hj=>(qY j hj).elim,fun h=>(qY _ h).elim,fun h=>(qY _ h).elim,fun h=>(qY _ h).elim,fun h=>(qY _ h).elim⟩
def CZ (lv tv:Value):Nat→Value→Prop
 | 1,v=>v = lv
 | 3,v=>v = tv
 | _,_=>True
theorem acc_l {c:Cm} {next:Int} {hR:List Od × Int × List Ev} (hp:prcB c = true):accL c next hR = if 0 < hR.2.1∧bR c.t = true then hR.1 ++ [⟨next,c.s,tkS c.p,hR.2.1,c.l,c.g⟩] else hR.1:=by
 rw [accL]
 by_cases hr:bR c.t = true
 ·have ht:tkOk c.p = true:=by
   rw [prcB,if_neg (by intro e; rw [bR,e] at hr; simp at hr)] at hp; exact hp
  rw [tkS_ok ht]
 ·rw [if_neg (fun h=>hr h.2),if_neg (fun h=>hr h.2)]
theorem one_allE (l:List Ev):∀ u ∈ l.flatMap Ev.vs,u.oneCell' = true:=by
 intro u hu
 obtain ⟨e,_,h⟩:=List.mem_flatMap.1 hu
 exact one_ev e u h
theorem l04Step_r (next:Int) (vb:Value) (l:List Od) (c:Cm) (w:World) (jh:refR next l c ≠ 0) (hr:RdR Od.vs 6 w vb l) (hs:SlOk vb) (hg:GoodL l) (ui:∀ x ∈ l,x.side = 1 ∨ x.side = 2) (h0:0 ≤ next) (Q:next ≤ 1000000) (ht:c.g.size ≤ maxLen) :
  Calls Tryz.prog 16 #[.agg #[H next,vb],cmV c] w fun e w'=>∃ vq vg,e = ym (.tuple #[.agg #[H (stN next l c),vq],vg])∧ORow w' w.heap.size vq (stL next l c)∧ERow w' w.heap.size vg (stE next l c)∧yn w w':=by
 obtain ⟨i0,uJ,uD,uz,uM⟩:=info_parts Tryz.infoOrder
 obtain ⟨j0,jM,bh,hy1,hy2⟩:=info_parts infoEv
 have HR:=M hr
 have qn:=M hs
 have HG:=M hg
 have ky:=M ht
 have ju:=hg.len
 have uO:Hid (0 ≤ next∧next ≤ 1000000):=⟨h0,Q⟩
 have uL:=M (fun (W:World) hW=>fO next vb l c W hW hs hg ui ht)
 rw [ref_eq] at uL
 have HK:=M (@fK next l c)
 have HQ:=M (@fg next l c)
 have kK:=M (@ref_id next l c)
 have jR:=M (@ref_newS next l c)
 have uy:=M jh
 clear jh
 have vW:Hid (stN next l c = if refR next l c = 0∧c.k = 1 then next + 1 else next):=rfl
 have uA:=M (stL.eq_1 next l c)
 have vO:=M (stE.eq_1 next l c)
 have kZ:=M (fun W=>fN c W ht)
 have ja:=M (fun (a:Option Addr) (n cap:Nat) (W:World)=>fx next a n cap c W)
 have kw:=M (fun (v:Value) (W:World) hr hs hp jO jl=>fw v l c next W hr hg hs hp jO jl)
 obtain ⟨a,cap,rfl,jg,hc⟩:=hr
 obtain ⟨kk,s,ty,li,qt,ii,pr,tg⟩:=c
 generalize stN next l ⟨kk,s,ty,li,qt,ii,pr,tg⟩ = sN at vW ⊢
 generalize stL next l ⟨kk,s,ty,li,qt,ii,pr,tg⟩ = sL at uA ⊢
 generalize stE next l ⟨kk,s,ty,li,qt,ii,pr,tg⟩ = sE at vO ⊢
 generalize refR next l ⟨kk,s,ty,li,qt,ii,pr,tg⟩ = rr at uL vW uA vO HK HQ kK jR uy
 unfold cmV at uL ja ⊢
 simp only at uL vW uA vO HK HQ kK jR kZ ja kw ky uy ⊢
 have HB:=M (box3 w [H next,.slice a l.length cap] (yx kk s ty li qt ii pr tg) [H 0,.slice none 0 0] 27 33 27)
 clear hs hg ui h0 Q ht hc jg
 go_enter Tryz.func16,Tryz.ntmps16
 refine ic fun xh xK=>?_
 go_wp2_with fail
 refine U xK _ _ ?_
 clear xK
 change Hid ((((w.alloc (O #[H next,.slice a l.length cap] 27)).alloc (O (yx kk s ty li qt ii pr tg).toArray 33)).alloc (O #[H 0,.slice none 0 0] 27)).heap.size = w.heap.size + 3∧World.rangeAt (((w.alloc (O #[H next,.slice a l.length cap] 27)).alloc (O (yx kk s ty li qt ii pr tg).toArray 33)).alloc (O #[H 0,.slice none 0 0] 27)) w.heap.size 0 [H next,.slice a l.length cap]∧World.rangeAt (((w.alloc (O #[H next,.slice a l.length cap] 27)).alloc (O (yx kk s ty li qt ii pr tg).toArray 33)).alloc (O #[H 0,.slice none 0 0] 27)) (w.heap.size + 1) 0 (yx kk s ty li qt ii pr tg)∧World.rangeAt (((w.alloc (O #[H next,.slice a l.length cap] 27)).alloc (O (yx kk s ty li qt ii pr tg).toArray 33)).alloc (O #[H 0,.slice none 0 0] 27)) (w.heap.size + 1 + 1) 0 [H 0,.slice none 0 0]∧World.there (((w.alloc (O #[H next,.slice a l.length cap] 27)).alloc (O (yx kk s ty li qt ii pr tg).toArray 33)).alloc (O #[H 0,.slice none 0 0] 27)) (w.heap.size + 1 + 1) 0 2∧yn w (((w.alloc (O #[H next,.slice a l.length cap] 27)).alloc (O (yx kk s ty li qt ii pr tg).toArray 33)).alloc (O #[H 0,.slice none 0 0] 27))) at HB
 generalize (((w.alloc (O #[H next,.slice a l.length cap] 27)).alloc (O (yx kk s ty li qt ii pr tg).toArray 33)).alloc (O #[H 0,.slice none 0 0] 27)) = h3 at HB ⊢
 have xL:Hid (∀ W:World,yn h3 W→W.cell? (yq w 0) = some (H next)∧W.cell? (yq w 1) = some (.slice a l.length cap)∧W.cell? (J (w.heap.size + 1) 0) = some (H kk)∧W.cell? (J (w.heap.size + 1) 1) = some (H s)∧W.cell? (J (w.heap.size + 1) 2) = some (H ty)∧W.cell? (J (w.heap.size + 1) 3) = some (H li)∧W.cell? (J (w.heap.size + 1) 4) = some (H qt)∧W.cell? (J (w.heap.size + 1) 5) = some (H ii)∧W.cell? (J (w.heap.size + 1) 6) = some (yj pr)∧W.cell? (J (w.heap.size + 1) 7) = some (yk tg)):=fun W hW =>
  have p:=zc (U HB).2.1 hW (by have:=(U HB).1; omega)
  have q:=zc (U HB).2.2.1 hW (by have:=(U HB).1; omega)
  ⟨p 0 _ rfl,p 1 _ rfl,q 0 _ rfl,q 1 _ rfl,q 2 _ rfl,q 3 _ rfl,q 4 _ rfl,q 5 _ rfl,q 6 _ rfl,q 7 _ rfl⟩
 have vL:w.heap.size + 1 + 1 < h3.heap.size:=by have:=(U HB).1; omega
 refine wp_seq_k fun xh hK=>?_
 have HT:∀ (a6:Option Addr) (c6:Nat) (w1:World),ORow w1 h3.heap.size (.slice a6 l.length c6) l→yn h3 w1→xh { tmps:=#[.agg #[H next,.slice a l.length cap],.agg (yx kk s ty li qt ii pr tg).toArray,yp w 0,I (w.heap.size + 1) 0,I (w.heap.size + 1 + 1) 0,.slice none 0 0,.slice a6 l.length c6,Z,Z,Z,Z,Z,Z,Z,Z,Z,Z,Z,.slice (some (yq h3 0)) 0 0,yp w 1,.slice a l.length cap,.slice a6 l.length c6,Z,Z,Z,Z,Z,Z,Z,Z,Z,Z,Z,Z,Z,Z,Z,Z,Z,Z,Z,Z,Z,Z,Z,Z,Z,Z,Z,Z,Z,Z,Z,Z,Z,Z,Z,Z,Z,Z,Z,Z,Z,Z,Z,Z,Z,Z,Z,Z,Z,Z,Z,Z,Z,Z,Z,Z,Z,Z,Z,Z,Z,Z,Z,Z,Z,Z,Z,Z,Z,Z,Z,Z,Z,Z,Z,Z,Z,Z,Z,Z,Z,Z,Z,Z,Z,Z,Z,Z,Z,Z,Z,Z,Z,Z,Z,Z,Z,Z,Z,Z,Z,Z,Z,Z,Z,Z,Z,Z,Z,Z,Z,Z,Z,Z,Z,Z,Z,Z,Z,Z,Z,Z,Z,Z,Z,Z,Z,Z,Z,Z,Z,Z,Z,Z,Z,Z,Z,Z,Z,Z,Z,Z,Z,Z,Z,Z,Z,Z,Z],defers:=[] } w1:=by
  intro a6 c6 w1 qA ub
  refine hK _ _ ?_
  clear hK
  have vv:=M qA
  have xU:=M ub
  clear qA ub
  obtain ⟨z0,z1,y0,y1,y2,y3,y4,y5,y6,y7⟩:=U xL w1 (U xU)
  refine ic fun xh xK=>?_
  go_wp2_with fail
  refine (U uL w1 (zh (U HR) ((U HB).2.2.2.2.2.trans ((U xU).mono (U HB).2.2.2.2.2.size)) hU)).mono ?_
  rintro e w2 ⟨rfl,xP⟩
  have qy:=M (zp (U vv) xP)
  have xt:=M (ia (U xU) xP)
  clear z0 z1 y0 y1 y2 y3 y4 y5 y6 y7 xP vv
  obtain ⟨z0,z1,y0,y1,y2,y3,y4,y5,y6,y7⟩:=U xL w2 (U xt)
  have qd:=M (zk (U HB).2.2.2.2.1 (U xt) vL)
  have pm:w.heap.size + 1 + 1 < w2.heap.size:=yK vL (U xt).size
  have xI:=M ((U HB).2.2.2.2.2.trans ((U xt).mono (U HB).2.2.2.2.2.size))
  have hXw:w.heap.size ≤ h3.heap.size:=by omega
  have pK:h3.heap.size ≤ w2.heap.size:=(U xt).size
  have oP:=pK
  by_cases vE:rr = 0
  ·subst vE
   have hkk:=U HK rfl
   rcases hkk with rfl | rfl | rfl | rfl
   ·exact absurd rfl (U uy)
   ·exact absurd rfl (U uy)
   ·exact absurd rfl (U uy)
   ·exact absurd rfl (U uy)
  ·have oJ:=vE
   have jP:(rr == 0) = false:=by rw [xe]; exact vE
   have vH:Hid (sN = next∧sL = l∧sE = [⟨2,⟨kk,s,ty,li,qt,ii,pr,cutB tg⟩,0,0,0,0,rr⟩]):=⟨by rw [U vW,if_neg (fun h=>vE h.1)],by rw [U uA,if_neg vE],by rw [U vO,if_neg vE]⟩
   clear vE oJ vW uA vO HQ kK HK jR ja kw uy
   have HZ0:=M z0
   have jI:=M z1
   have HY0:=M y0
   have HY1:=M y1
   have jj:=M y2
   have HY3:=M y3
   have qu:=M y4
   have HY5:=M y5
   have kA:=M y6
   have jc:=M y7
   have hRS:w.heap.size + 1 + 1 < h3.heap.size:=vL
   go_wp2_with fail
   clear z0 z1 y0 y1 y2 y3 y4 y5 y6 y7
   refine zn (RXA (fun f=>{ tmps:=#[.agg #[H next,.slice a l.length cap],.agg (yx kk s ty li qt ii pr tg).toArray,yp w 0,I (w.heap.size + 1) 0,I (w.heap.size + 1 + 1) 0,f 10,.slice a6 l.length c6,H rr,Z,Z,Z,Z,Z,Z,Z,Z,Z,Z,.slice (some (yq h3 0)) 0 0,yp w 1,.slice a l.length cap,.slice a6 l.length c6,.agg #[H next,.slice a l.length cap],.agg (yx kk s ty li qt ii pr tg).toArray,H rr,H rr,.bool (rr != 0),f 0,f 1,f 2,f 3,f 4,f 5,f 6,f 7,f 8,Z,Z,Z,Z,Z,Z,Z,Z,Z,Z,Z,Z,Z,Z,Z,Z,Z,Z,Z,Z,Z,Z,Z,Z,Z,Z,Z,Z,Z,Z,Z,Z,Z,Z,Z,Z,Z,Z,Z,Z,Z,Z,Z,Z,Z,Z,Z,Z,Z,Z,Z,Z,Z,Z,Z,Z,Z,Z,Z,Z,Z,Z,Z,Z,Z,Z,Z,Z,Z,Z,Z,Z,Z,Z,Z,Z,Z,Z,Z,Z,Z,Z,Z,Z,Z,Z,Z,Z,Z,Z,Z,Z,Z,Z,Z,Z,Z,Z,Z,Z,Z,Z,Z,Z,Z,Z,Z,Z,Z,Z,Z,Z,Z,Z,Z,Z,Z,Z,Z,Z,Z,Z,Z,Z,Z,Z,Z,Z,Z,Z,Z,Z,Z,Z,Z],defers:=[] }) (CX [yp w 0,H next,.slice a6 l.length c6,.agg #[H next,.slice a6 l.length c6],.agg (yx kk s ty li qt ii pr tg).toArray,.agg (yx kk s ty li qt ii pr (cutB tg)).toArray,H rr,.agg (yv 2 kk s ty li qt ii pr (cutB tg) 0 0 0 0 rr).toArray,Z,Z,Z] [(8,2),(9,9),(10,2)] (h3.heap.size) (next) (l) ([⟨2,⟨kk,s,ty,li,qt,ii,pr,cutB tg⟩,0,0,0,0,rr⟩])) (w.heap.size + 1 + 1) 2 9 (fun f=>aggL (f 3)) w2) (by kernel_rfl) ?_ ?_ ?_
   ·exact ⟨fun j=>if j = 10 then .slice none 0 0 else Z,rfl,rx_start pm (U qd)⟩
   rotate_left
   ·rintro x hb V i op ⟨f,rfl,F⟩ xo hx Y xu K
    have xA:=M F
    have xj:∀ (p:Addr) u,w2.cell? p = some u→p.block ≠ w.heap.size + 1 + 1→V.cell? p = some u:=fun p u hu hp=>kb_cell F.k hu hp
    match i,Y with
    | 0,Y =>
     obtain rfl:=ya Y
     clear K F xj xo
     rw [if_pos (by rfl)];unfold Oper.wp;go_simp
     exact ⟨upd f 0 (yp w 0),by simp [upd],bW (U xA) 0 _ (by decide) (fun _=>rfl) (zT rfl rfl)⟩
    | 1,Y =>
     obtain rfl:=ya Y
     have g0:f 0 = yp w 0:=zP (F.c 0 (ye K 0 rfl)) rfl rfl
     have z0:=xj (yq w 0) _ (U HZ0) (show w.heap.size ≠ w.heap.size + 1 + 1 by omega)
     clear K F xj xo
     rw [if_pos (by rfl)];unfold Oper.wp;go_simp
     exact ⟨upd f 1 (H next),by simp [upd,g0],bW (U xA) 1 _ (by decide) (fun _=>rfl) (zT rfl rfl)⟩
    | 2,Y =>
     obtain rfl:=ya Y
     clear K F xj xo
     rw [if_pos (by rfl)];unfold Oper.wp;go_simp
     exact ⟨upd f 2 (.slice a6 l.length c6),by simp [upd],bW (U xA) 2 _ (by decide) (fun _=>rfl) (zT rfl rfl)⟩
    | 3,Y =>
     obtain rfl:=ya Y
     have g1:f 1 = H next:=zP (F.c 1 (ye K 1 rfl)) rfl rfl
     have g2:f 2 = .slice a6 l.length c6:=zP (F.c 2 (ye K 2 rfl)) rfl rfl
     have hcl0:=xo
     clear K F xj xo
     rw [if_pos (by rfl)];unfold Oper.wp;go_simp
     exact ⟨upd f 3 (.agg #[H next,.slice a6 l.length c6]),by simp [upd,g1,g2],bW (U xA) 3 _ (by decide) (fun h=>by rw [ch hcl0 12 3 9 (by kernel_rfl) hx (by simp) xu] at h; cases h) (zT rfl rfl)⟩
    | 4,Y =>
     obtain rfl:=ya Y
     have y0:=xj (J (w.heap.size + 1) 0) _ (U HY0) (show w.heap.size + 1 ≠ w.heap.size + 1 + 1 by omega)
     have y1:=xj (J (w.heap.size + 1) 1) _ (U HY1) (show w.heap.size + 1 ≠ w.heap.size + 1 + 1 by omega)
     have y2:=xj (J (w.heap.size + 1) 2) _ (U jj) (show w.heap.size + 1 ≠ w.heap.size + 1 + 1 by omega)
     have y3:=xj (J (w.heap.size + 1) 3) _ (U HY3) (show w.heap.size + 1 ≠ w.heap.size + 1 + 1 by omega)
     have y4:=xj (J (w.heap.size + 1) 4) _ (U qu) (show w.heap.size + 1 ≠ w.heap.size + 1 + 1 by omega)
     have y5:=xj (J (w.heap.size + 1) 5) _ (U HY5) (show w.heap.size + 1 ≠ w.heap.size + 1 + 1 by omega)
     have y6:=xj (J (w.heap.size + 1) 6) _ (U kA) (show w.heap.size + 1 ≠ w.heap.size + 1 + 1 by omega)
     have y7:=xj (J (w.heap.size + 1) 7) _ (U jc) (show w.heap.size + 1 ≠ w.heap.size + 1 + 1 by omega)
     clear K F xj xo
     rw [if_pos (by rfl)];unfold Oper.wp;go_simp
     exact ⟨upd f 4 (.agg (yx kk s ty li qt ii pr tg).toArray),by simp [upd],bW (U xA) 4 _ (by decide) (fun _=>rfl) (zT rfl rfl)⟩
    | 5,Y =>
     obtain rfl:=ya Y
     have g4:f 4 = .agg (yx kk s ty li qt ii pr tg).toArray:=zP (F.c 4 (ye K 4 rfl)) rfl rfl
     clear K F xo xj
     rw [if_pos (by rfl)];unfold Oper.wp;go_simp
     refine (U kZ V).mono ?_
     rintro e w4 ⟨rfl,xy⟩
     exact ⟨upd f 5 (.agg (yx kk s ty li qt ii pr (cutB tg)).toArray),by simp [upd,g4],bW (rx_grow (eL hRS) (U xA) xy) 5 _ (by decide) (fun _=>rfl) (zT rfl rfl)⟩
    | 6,Y =>
     obtain rfl:=ya Y
     clear K F xj xo
     rw [if_pos (by rfl)];unfold Oper.wp;go_simp
     exact ⟨upd f 6 (H rr),by simp [upd],bW (U xA) 6 _ (by decide) (fun _=>rfl) (zT rfl rfl)⟩
    | 7,Y =>
     obtain rfl:=ya Y
     have g5:f 5 = .agg (yx kk s ty li qt ii pr (cutB tg)).toArray:=zP (F.c 5 (ye K 5 rfl)) rfl rfl
     have g6:f 6 = H rr:=zP (F.c 6 (ye K 6 rfl)) rfl rfl
     clear K F xj xo
     rw [if_pos (by rfl)];unfold Oper.wp;go_simp
     exact ⟨upd f 7 (.agg (yv 2 kk s ty li qt ii pr (cutB tg) 0 0 0 0 rr).toArray),by simp [upd,g5,g6],bW (U xA) 7 _ (by decide) (fun _=>rfl) (zT rfl rfl)⟩
    | 8,Y =>
     obtain rfl:=ya Y
     have g7:f 7 = .agg (yv 2 kk s ty li qt ii pr (cutB tg) 0 0 0 0 rr).toArray:=zP (F.c 7 (ye K 7 rfl)) rfl rfl
     have aZ:=yO oP F.k.size
     clear K F xj xo
     rw [if_pos (by rfl)];unfold Oper.wp;go_simp
     exact ⟨upd f 8 (.slice (some (yq V 0)) 1 1),by simp [upd,g7],bW (rx_grow (eL hRS) (U xA) (gZ _ _)) 8 _ (by decide) (fun _=>rfl) (dM (d:=2) rfl ⟨eRow_one V ⟨2,⟨kk,s,ty,li,qt,ii,pr,cutB tg⟩,0,0,0,0,rr⟩ aZ,_,_,rfl⟩)⟩
    | 9,Y =>
     obtain rfl:=ya Y
     have g0:f 3 = .agg #[H next,.slice a6 l.length c6]:=zP (F.c 3 (ye K 3 rfl)) rfl rfl
     obtain ⟨y0,z0,q0⟩:=zg F.t (j:=0) (by omega)
     obtain ⟨y1,z1,q1⟩:=zg F.t (j:=1) (by omega)
     clear K F xj xo
     rw [if_pos (by rfl)];unfold Oper.wp;go_simp
     have vd:=rx_store (eL hRS) (U xA) xu (by simp [g0,aggL]) (fun _ _=>dM (d:=9) rfl trivial)
     simp only [g0,aggL] at vd
     exact ⟨f,by simp [g0],vd⟩
    | 10,Y =>
     obtain rfl:=ya Y
     have h8:=cx_sp (d:=2) (F.c 8 (ye K 8 rfl)) rfl
     obtain ⟨a8,c8,g8⟩:=h8.2
     rw [g8] at h8
     have H8:=M h8
     clear h8
     clear K F xj xo
     rw [if_pos (by rfl)];unfold Oper.wp;go_simp
     exact ⟨upd f 10 (f 8),by simp [upd,g8],bW (U xA) 10 _ (by decide) (fun _=>rfl) (dM (d:=2) rfl (by rw [g8]; exact U H8))⟩
    | n + 11,Y=>simp at Y
   ·rintro x hb V ⟨f,rfl,F⟩ hx xN
    have xp:=zY xN hx (by kernel_rfl)
    obtain ⟨hE8,a8,c8,e8⟩:=cx_sp (d:=2) (F.c 10 (xp 10 (by simp))) rfl
    have vN:=F.r (xp 9 (by simp))
    obtain ⟨v4,hv4,pv⟩:∃ v4,v4 = .slice a6 l.length c6∧ORow V h3.heap.size v4 l:=⟨_,rfl,kb_row (U qy) F.k hRS⟩
    have g3:f 3 = .agg #[H next,.slice a6 l.length c6]:=zP (F.c 3 (xp 3 (by simp))) rfl rfl
    simp only [g3,aggL] at vN
    rw [← hv4] at vN
    clear g3
    have HO:Hid (ORow V w.heap.size v4 _∧ERow V w.heap.size (.slice a8 _ c8) _):=⟨zR pv (by omega),zR (e8 ▸ hE8) (by omega)⟩
    have xw:Hid (yn w V):=⟨F.k.os.trans (U xI).os,F.k.tape.trans (U xI).tape,F.k.output.trans (U xI).output,yO (U xI).size F.k.size,fun k E=>(F.k.block k (yK E (U xI).size) (by omega)).trans ((U xI).block k E)⟩
    have d0:V.cell? (J (w.heap.size + 1 + 1) 0) = some (H next):=vN 0 _ rfl
    have d1:V.cell? (J (w.heap.size + 1 + 1) 1) = some v4:=vN 1 _ rfl
    simp only [e8]
    generalize f 0 = w0,f 1 = w1,f 2 = w2,f 3 = w3,f 4 = w4,f 5 = w5,f 6 = w6,f 7 = w7,f 8 = w8
    clear F xp xN hx vN hE8 pv
    go_wp2_with fail
    try simp only [Exit.inBlock,Exit.then]
    refine bodyPost_ret (by simp [results,Tryz.results16,go_sem,d0,d1]; try rfl) rfl ?_
    obtain ⟨rfl,rfl,rfl⟩:=U vH
    exact ⟨_,_,rfl,(U HO).1,(U HO).2,U xw⟩
 rcases U qn with hs | ⟨ad,nn,cc,hs⟩
 ·simp only [Value.slice.injEq] at hs
  obtain ⟨rfl,jk,rfl⟩:=hs
  obtain rfl:=List.length_eq_zero_iff.1 jk
  obtain ⟨z0,z1,y0,y1,y2,y3,y4,y5,y6,y7⟩:=U xL h3 (Below.refl _ _)
  have vY:=M (World.ownsRow_made (base:=h3.heap.size) (e:=65) (size:=6) h3 #[] 0 hU (by decide) rfl)
  have hzX:World.cell? (h3.alloc (O #[] 65)) (yq w 1) = some (.slice none 0 0):=(U xL _ (gZ _ _)).2.1
  have ow:=M HT
  clear HT hK
  go_wp2_with (at_builtin; go_must (refine wpList_append_own_none rfl _ _ 25 rfl h3.heap.size 65 i0 6 Tryz.underlying25 uJ (.slice (some (yq h3 0)) 0 0) 0 [] rfl (U vY) rfl ?_))
  exact U ow _ _ _ (U vY) (gZ _ _)
 ·simp only [Value.slice.injEq] at hs
  obtain ⟨rfl,rfl,rfl⟩:=hs
  obtain ⟨z0,z1,y0,y1,y2,y3,y4,y5,y6,y7⟩:=U xL h3 (Below.refl _ _)
  have uK:Hid (yn h3 (h3.alloc (O #[] 65))):=gZ _ _
  have vY:=M (World.ownsRow_made (base:=h3.heap.size) (e:=65) (size:=6) h3 #[] 0 hU (by decide) rfl)
  have hzX:World.cell? (h3.alloc (O #[] 65)) (yq w 1) = some (.slice (some ad) l.length cap):=(U xL _ (U uK)).2.1
  have vf:Hid (∀ j u,(l.flatMap Od.vs)[j]? = some u→World.cell? (h3.alloc (O #[] 65)) (ad.add j) = some u):=rd_src (zh (U HR) ((U HB).2.2.2.2.2.trans ((U uK).mono (U HB).2.2.2.2.2.size)) hU)
  have ow:=M HT
  clear HT hK
  go_wp2_with (at_builtin; go_must (refine wpList_append_own _ rfl _ _ 25 rfl h3.heap.size 65 i0 _ 6 56 Tryz.underlying25 uJ uD uz uM rfl (by decide) (.slice (some (yq h3 0)) 0 0) 0 [] rfl (U vY) ad l.length cap (l.flatMap Od.vs) rfl (by rw [zL Od.len]) (U vf) (dj l) (by unfold maxLen; omega) (by omega) (U uK).size ?_); intro v1 w1 uW je _; have vv:=M uW; have oN:=M je; clear uW je)
  have bz:Hid (ORow w1 h3.heap.size v1 l):=by
   show w1.ownsRow _ _ _ _ l.length _
   simpa using U vv
  obtain ⟨a6,c6,hv⟩:=cT (U bz)
  subst hv
  exact U ow _ _ _ (U bz) ((U uK).grown (U oN) (U uK).size (fun k E=>((U vY).lt k E).1))
end Go.Proofs.YthhkapcbocgcoaaGreatDoor
