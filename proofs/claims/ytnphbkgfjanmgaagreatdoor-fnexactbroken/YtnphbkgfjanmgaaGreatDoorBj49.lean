/-
  Orders as records of six cells: copied one by one and in rows, held against each other, their size: proved by walking the laws' own helpers. (what walks the functions of the model or of the laws)
-/
import Derived.Test.YtnphbkgfjanmgaaGreatDoorBj09
import Derived.LoopN
import Derived.Deep.Slices
import Derived.ChangeArms
set_option linter.unusedVariables false
set_option maxHeartbeats 6400000
set_option maxRecDepth 100000
namespace Go.Proofs.YtnphbkgfjanmgaaGreatDoor
open Go.RowKit
theorem toOrder_any (o:Od) (w:World) :
  Calls Tryz.prog 55 #[.agg (yw o.id o.side o.ticks o.left o.life o.tag).toArray] w fun e w'=>e = .returned (.agg (yw o.id o.side o.ticks o.left o.life o.tag).toArray)∧yn w w':=by
 obtain ⟨id,side,ticks,left,life,tag⟩:=o
 simp only
 go_enter Tryz.func55,Tryz.ntmps55
 go_wp2_with fail
 go_returns
 refine ⟨rfl,?_⟩
 go_grown
theorem toOrderS_any (v:Value) (l:List Od) (w:World) (hr:RdR Od.vs 6 w v l) :
  Calls Tryz.prog 29 #[v] w fun e w'=>∃ v',e = .returned v'∧OwnR Od.vs 6 w.heap.size w' v' l∧yn w w':=by
 obtain ⟨a,cap,rfl,hl,hc⟩:=hr
 obtain ⟨i0,hi,uL,uM,uF⟩:=info_parts Tryz.infoOrder
 have xr:∀ (k:Nat) (c:Od),l[k]? = some c→∃ b off,a = some (U b off)∧b < w.heap.size∧w.rangeAt b (off + k * 6) c.vs:=by
  intro k c hk
  obtain ⟨b,off,Q,E,h3⟩:=hc (by intro h; rw [h] at hk; simp at hk)
  exact ⟨b,off,Q,E,h3 k c hk⟩
 have HC:=M xr
 clear xr hc
 go_enter Tryz.func29,Tryz.ntmps29
 go_wp2_with (at_make; go_must (refine wpList_make_full _ rfl _ _ 32 rfl w.heap.size 78 i0 _ 6 Tryz.underlying32 hi uL uM _ _ _ _ l.length rfl rfl rfl rfl (by rw [uF]; omega) (by unfold maxLen; omega) ya ?_); intro w1 xR jw)
 have HA:=M (fill_made (f:=Od.vs) xR jw)
 clear xR jw hi uL uM uF
 go_loopw [4] (fun i wr=>∃ k:Nat,k ≤ l.length∧i = I k∧FillR Od.vs 6 l.length w.heap.size w wr (l.take k)) (fun i _=>l.length - (intOf i).toNat)
 case atStart=>exact ⟨0,Nat.zero_le _,rfl,by simpa using H HA⟩
 case round =>
  obtain ⟨k,hk,rfl,jE⟩:=hrel
  have HF:=M jE
  clear jE HA
  by_cases xI:k < l.length
  ·obtain ⟨c,ur⟩:∃ c,l[k]? = some c:=⟨_,yH xI⟩
   have jK:=M ur
   obtain ⟨b,off,rfl,Y,V⟩:=H HC k c ur
   have kG:=zc V (H HF).2.2.2.2 Y
   obtain ⟨g0,g1,g2,g3,g4,g5⟩:=zA kG
   have uJ:(k:Int) < l.length:=by omega
   clear ur V Y kG
   go_wp2_with fail
   refine (toOrder_any c _).mono ?_
   rintro e w2 ⟨rfl,xJ⟩
   have vC:=M (fill_below (H HF) xJ ya)
   clear xJ
   obtain ⟨⟨x0,y0,z0⟩,⟨x1,y1,z1⟩,⟨x2,y2,z2⟩,⟨x3,y3,z3⟩,⟨x4,y4,z4⟩,x5,y5,z5⟩:=there6 (fill_there (H vC) xI)
   go_wp2_with fail
   go_roundw
   case rel =>
    refine ⟨k + 1,by omega,by go_num,?_⟩
    have h:=fill_step c (H vC) (by rw [List.length_take]; omega) Od.len
    rw [← takeR l k c (H jK),show (l.take k).length = k by rw [List.length_take]; omega] at h
    exact h
   case measure=>simp [intOf]; omega
  ·go_wp2_with fail
   go_ret
   have h:=H HF
   rw [yZ (by omega)] at h
   exact ⟨_,rfl,fill_own h rfl hl,h.2.2.2.2⟩
theorem eqOrder_same (o:Od) (w:World) :
  Calls Tryz.prog 61 #[.agg (yw o.id o.side o.ticks o.left o.life o.tag).toArray,.agg (yw o.id o.side o.ticks o.left o.life o.tag).toArray] w fun e w'=>e = .returned (.bool true)∧yn w w':=by
 obtain ⟨id,side,ticks,left,life,tag⟩:=o
 simp only
 go_enter Tryz.func61,Tryz.ntmps61
 go_wp2_with fail
 go_returns
 refine ⟨rfl,?_⟩
 go_grown
theorem eqOrderS_same (va vb:Value) (l:List Od) (w:World) (ha:RdR Od.vs 6 w va l) (Y:RdR Od.vs 6 w vb l) :
  Calls Tryz.prog 33 #[va,vb] w fun e w'=>e = .returned (.bool true)∧yn w w':=by
 obtain ⟨aa,ca,rfl,hl,hca⟩:=ha
 obtain ⟨ab,cb,rfl,_,hcb⟩:=Y
 have xr:∀ (k:Nat) (c:Od),l[k]? = some c→∃ b off b' qu,aa = some (U b off)∧ab = some (U b' qu)∧b < w.heap.size∧b' < w.heap.size∧w.rangeAt b (off + k * 6) c.vs∧w.rangeAt b' (qu + k * 6) c.vs:=by
  intro k c hk
  have xD:l ≠ []:=by intro h; rw [h] at hk; simp at hk
  obtain ⟨b,off,Q,E,h3⟩:=hca xD
  obtain ⟨b',qu,pu,oI,h3'⟩:=hcb xD
  exact ⟨b,off,b',qu,Q,pu,E,oI,h3 k c hk,h3' k c hk⟩
 have HC:=M xr
 clear xr hca hcb
 go_enter Tryz.func33,Tryz.ntmps33
 go_wp2_with fail
 go_loopw [5] (fun i wr=>∃ k:Nat,k ≤ l.length∧i = I k∧yn w wr) (fun i _=>l.length - (intOf i).toNat)
 case atStart=>exact ⟨0,Nat.zero_le _,rfl,Below.refl _ _⟩
 case round =>
  obtain ⟨k,hk,rfl,xk⟩:=hrel
  have HB:=M xk
  clear xk
  by_cases xI:k < l.length
  ·obtain ⟨c,ur⟩:∃ c,l[k]? = some c:=⟨_,yH xI⟩
   obtain ⟨b,off,b',qu,rfl,rfl,Y,hb',V,qr⟩:=H HC k c ur
   obtain ⟨g0,g1,g2,g3,g4,g5⟩:=zA (zc V (H HB) Y)
   obtain ⟨e0,e1,e2,e3,e4,e5⟩:=zA (zc qr (H HB) hb')
   have uJ:(k:Int) < l.length:=by omega
   clear ur V qr Y hb'
   go_wp2_with fail
   go_region_with (go_at_call 61; refine (eqOrder_same c _).mono ?_; rintro e w2 ⟨rfl,xJ⟩; have xu:=M ((H HB).drew.trans (xJ.mono (H HB).drew.size)); clear xJ)
   go_wp2_with fail
   go_roundw
   case rel=>exact ⟨k + 1,by omega,by go_num,H xu⟩
   case measure=>simp [intOf]; omega
   all_goals exact ⟨⟨k + 1,by omega,by go_num,H xu⟩,by simp [intOf]; omega⟩
  ·go_wp2_with fail
   go_ret
   exact ⟨rfl,H HB⟩
theorem szOrder_any (o:Od) (x:Int) (w:World) (h0:0 ≤ x) (Q:x ≤ 1073741824) (hg:o.tag.size ≤ maxLen) :
  Calls Tryz.prog 46 #[.agg (yw o.id o.side o.ticks o.left o.life o.tag).toArray,I x] w fun e w' =>
   ∃ y:Int,e = .returned (I y)∧-1 ≤ y∧y ≤ x∧yn w w':=by
 obtain ⟨id,side,ticks,left,life,g⟩:=o
 simp only at *
 unfold maxLen at hg
 by_cases h:x < g.size
 ·go_enter Tryz.func46,Tryz.ntmps46
  go_wp2_with fail
  go_ret
  exact ⟨_,rfl,by omega,by omega,by go_grown⟩
 ·go_enter Tryz.func46,Tryz.ntmps46
  go_wp2_with fail
  go_ret
  exact ⟨_,rfl,by omega,by omega,by go_grown⟩
theorem szOrderS_any (v:Value) (l:List Od) (w:World) (hr:RdR Od.vs 6 w v l) (hl:l.length ≤ 1048576) (hg:∀ c ∈ l,c.tag.size ≤ maxLen) :
  Calls Tryz.prog 24 #[v,I 1048576] w fun e w'=>∃ y:Int,e = .returned (I y)∧-1 ≤ y∧y ≤ 1048576∧yn w w':=by
 obtain ⟨a,cap,rfl,_,hc⟩:=hr
 have xr:∀ (k:Nat) (c:Od),l[k]? = some c→∃ b off,a = some (U b off)∧b < w.heap.size∧w.rangeAt b (off + k * 6) c.vs:=by
  intro k c hk
  obtain ⟨b,off,Q,E,h3⟩:=hc (by intro h; rw [h] at hk; simp at hk)
  exact ⟨b,off,Q,E,h3 k c hk⟩
 have HC:=M xr
 have HG:=M hg
 clear xr hc hg
 have pB:¬ (1048576 - (l.length:Int) < 0):=by omega
 go_enter Tryz.func24,Tryz.ntmps24
 go_wp2_with fail
 go_loopw [1,5] (fun xv i wr=>∃ (x:Int) (k:Nat),xv = I x∧0 ≤ x∧x ≤ 1048576∧k ≤ l.length∧i = I k∧yn w wr) (fun _ i _=>l.length - (intOf i).toNat)
 case atStart=>exact ⟨_,0,rfl,by omega,by omega,Nat.zero_le _,rfl,Below.refl _ _⟩
 case round =>
  obtain ⟨x,k,rfl,hx0,hx1,hk,rfl,xk⟩:=hrel
  have HB:=M xk
  clear xk
  by_cases xI:k < l.length
  ·obtain ⟨c,ur⟩:∃ c,l[k]? = some c:=⟨_,yH xI⟩
   obtain ⟨b,off,rfl,Y,V⟩:=H HC k c ur
   have HS:=M (H HG c (yO ur))
   obtain ⟨g0,g1,g2,g3,g4,g5⟩:=zA (zc V (H HB) Y)
   have uJ:(k:Int) < l.length:=by omega
   clear ur V Y
   go_wp2_with fail
   refine (szOrder_any c x _ hx0 (by omega) (H HS)).mono ?_
   rintro e w2 ⟨y,rfl,hy0,hy1,xJ⟩
   have xu:=M (fH (H HB) xJ)
   clear xJ
   by_cases hy:y < 0
   ·go_wp2_with fail
    go_ret
    exact ⟨_,rfl,by omega,by omega,H xu⟩
   ·go_wp2_with fail
    go_roundw
    case rel=>exact ⟨y,k + 1,rfl,by omega,by omega,by omega,by go_num,H xu⟩
    case measure=>simp [intOf]; omega
  ·go_wp2_with fail
   go_ret
   exact ⟨_,rfl,by omega,by omega,H HB⟩
theorem szOrderS_long (a:Option Addr) (len cap:Nat) (w:World) (hl:1048576 < len) (hm:len ≤ maxLen) :
  Calls Tryz.prog 24 #[.slice a len cap,I 1048576] w fun e w'=>e = .returned (I (-1))∧w' = w:=by
 unfold maxLen at hm
 have pB:1048576 - (len:Int) < 0:=by omega
 go_enter Tryz.func24,Tryz.ntmps24
 go_wp2_with fail
 go_ret
 exact ⟨rfl,rfl⟩
theorem szBook_any (n:Int) (v:Value) (l:List Od) (w:World) (hr:RdR Od.vs 6 w v l) (hl:l.length ≤ 1048576) (hg:∀ c ∈ l,c.tag.size ≤ maxLen) :
  Calls Tryz.prog 6 #[.agg #[I n,v],I 1048576] w fun e w'=>∃ y:Int,e = .returned (I y)∧-1 ≤ y∧y ≤ 1048576∧yn w w':=by
 have HR:=M hr
 obtain ⟨a,cap,rfl,_,_⟩:=hr
 have HG:=M hg
 clear hg
 have HA:Hid (yn w (w.alloc (A #[I n,.slice a l.length cap] 24))):=fE _ _
 go_enter Tryz.func6,Tryz.ntmps6
 go_wp2_with fail
 refine (szOrderS_any _ l _ (zh (H HR) (H HA) ya) hl (H HG)).mono ?_
 rintro e w1 ⟨y,rfl,hy0,hy1,ui⟩
 have HB:=M (fH (H HA) ui)
 clear ui
 by_cases hy:y < 0
 ·go_wp2_with fail
  go_ret
  exact ⟨_,rfl,by omega,by omega,H HB⟩
 ·go_wp2_with fail
  go_ret
  exact ⟨_,rfl,by omega,by omega,H HB⟩
theorem szBook_long (n:Int) (a:Option Addr) (len cap:Nat) (w:World) (hl:1048576 < len) (hm:len ≤ maxLen) :
  Calls Tryz.prog 6 #[.agg #[I n,.slice a len cap],I 1048576] w fun e w'=>e = .returned (I (-1))∧yn w w':=by
 have HZ:=M (fun W=>szOrderS_long a len cap W hl hm)
 clear hl hm
 go_enter Tryz.func6,Tryz.ntmps6
 go_wp2_with fail
 refine (H HZ _).mono ?_
 rintro e w1 ⟨rfl,rfl⟩
 go_wp2_with fail
 go_ret
 exact ⟨rfl,by go_grown⟩
theorem toBook_any (n:Int) (v:Value) (l:List Od) (w:World) (hr:RdR Od.vs 6 w v l) :
  Calls Tryz.prog 9 #[.agg #[I n,v]] w fun e w'=>∃ v',e = .returned (.agg #[I n,v'])∧OwnR Od.vs 6 w.heap.size w' v' l∧yn w w':=by
 have HR:=M hr
 obtain ⟨a,cap,rfl,_,_⟩:=hr
 have xK:=zi w (A #[I n,.slice a l.length cap] 24)
 have ue:((w.alloc (A #[I n,.slice a l.length cap] 24)).alloc (A #[I 0,.slice none 0 0] 34)).heap.size = w.heap.size + 1 + 1:=by rw [zi,xK]
 have r1:=zn (w.alloc (A #[I n,.slice a l.length cap] 24)) [I 0,.slice none 0 0] 34
 have r2:=zn ((w.alloc (A #[I n,.slice a l.length cap] 24)).alloc (A #[I 0,.slice none 0 0] 34)) [I n,.slice none 0 0] 34
 have t1:=bY (n:=2) (heap_alloc_new (w.alloc (A #[I n,.slice a l.length cap] 24)) (A #[I 0,.slice none 0 0] 34)) (by simp)
 have t2:=bY (n:=2) (heap_alloc_new ((w.alloc (A #[I n,.slice a l.length cap] 24)).alloc (A #[I 0,.slice none 0 0] 34)) (A #[I n,.slice none 0 0] 34)) (by simp)
 rw [xK] at r1 t1
 rw [ue] at r2 t2
 have xS:Hid (yn w (((w.alloc (A #[I n,.slice a l.length cap] 24)).alloc (A #[I 0,.slice none 0 0] 34)).alloc (A #[I n,.slice none 0 0] 34))) :=
  ((fE _ _).alloc (by rw [xK]; omega) _).alloc (by rw [ue]; omega) _
 have jJ:(((w.alloc (A #[I n,.slice a l.length cap] 24)).alloc (A #[I 0,.slice none 0 0] 34)).alloc (A #[I n,.slice none 0 0] 34)).heap.size = w.heap.size + 1 + 1 + 1:=by rw [zi,ue]
 have r1':=zc r1 (C:=w.heap.size + 1 + 1) (((Below.refl _ _).alloc (by rw [ue]; omega) (A #[I n,.slice none 0 0] 34))) (by omega)
 have t1':=zo t1 (C:=w.heap.size + 1 + 1) (((Below.refl _ _).alloc (by rw [ue]; omega) (A #[I n,.slice none 0 0] 34))) (by omega)
 have HX:Hid (_∧_∧_∧_):=⟨r1',t1',r2,t2⟩
 have vT:=M jJ
 clear r1 t1 r1' t1' r2 t2 xK ue jJ
 go_enter Tryz.func9,Tryz.ntmps9
 go_wp2_with fail
 generalize hW3:(((w.alloc (A #[I n,.slice a l.length cap] 24)).alloc (A #[I 0,.slice none 0 0] 34)).alloc (A #[I n,.slice none 0 0] 34)) = W3 at xS HX vT ⊢
 clear hW3
 refine (toOrderS_any _ l _ (zh (H HR) (H xS) ya)).mono ?_
 rintro e w1 ⟨v',rfl,N,ui⟩
 have HO:=M N
 have HB:=M ui
 obtain ⟨x1,x2,x3,x4⟩:=H HX
 have y1:=zc x1 ui (by rw [H vT]; omega)
 have y2:=zo x2 ui (by rw [H vT]; omega)
 have y3:=zc x3 ui (by rw [H vT]; omega)
 have y4:=zo x4 ui (by rw [H vT]; omega)
 have c0:w1.cell? (U (w.heap.size + 1) 0) = some (I 0):=y1 0 _ rfl
 have c1:w1.cell? (U (w.heap.size + 1) 1) = some (.slice none 0 0):=y1 1 _ rfl
 have c2:w1.cell? (U (w.heap.size + 1 + 1) 0) = some (I n):=y3 0 _ rfl
 have c3:w1.cell? (U (w.heap.size + 1 + 1) 1) = some (.slice none 0 0):=y3 1 _ rfl
 have f0:w1.frozen? (U (w.heap.size + 1) 0) = false:=(y2 0 (by omega)).2
 have f1:w1.frozen? (U (w.heap.size + 1) 1) = false:=(y2 1 (by omega)).2
 have f2:w1.frozen? (U (w.heap.size + 1 + 1) 0) = false:=(y4 0 (by omega)).2
 have f3:w1.frozen? (U (w.heap.size + 1 + 1) 1) = false:=(y4 1 (by omega)).2
 clear N ui x1 x2 x3 x4 y1 y2 y3 y4
 obtain ⟨a',uD,rfl,pB,vM⟩:=H HO
 clear vM
 go_wp2_with fail
 have xD:((U (w.heap.size + 1) 0):Addr) ≠ (U (w.heap.size + 1) 1):=fun e=>by simp at e
 have hnb:∀ i j,((U (w.heap.size + 1 + 1) i):Addr) ≠ (U (w.heap.size + 1) j):=fun i j e=>by have:=congrArg Addr.block e; simp at this
 have d1:(((w1.setCell (U (w.heap.size + 1 + 1) 1) (.slice a' l.length uD)).setCell (U (w.heap.size + 1) 0) (I n)).setCell (U (w.heap.size + 1) 1) (.slice a' l.length uD)).cell? (U (w.heap.size + 1) 1) = some (.slice a' l.length uD) :=
  yM _ _ _ ((yL _ _ _ _ xD).trans ((yL _ _ _ _ (hnb 1 1)).trans c1))
 have d0:(((w1.setCell (U (w.heap.size + 1 + 1) 1) (.slice a' l.length uD)).setCell (U (w.heap.size + 1) 0) (I n)).setCell (U (w.heap.size + 1) 1) (.slice a' l.length uD)).cell? (U (w.heap.size + 1) 0) = some (I n) :=
  (yL _ _ _ _ xD.symm).trans (yM _ _ _ ((yL _ _ _ _ (hnb 1 0)).trans c0))
 have jo:=M (ownR_base (ownR_set (b:=w.heap.size + 1) (ownR_set (b:=w.heap.size + 1) (ownR_set (b:=w.heap.size + 1 + 1) (H HO) (by rw [H vT]; omega) 1 (.slice a' l.length uD)) (by rw [H vT]; omega) 0 (I n)) (by rw [H vT]; omega) 1 (.slice a' l.length uD)) (B':=w.heap.size) (by rw [H vT]; omega))
 have ug:=M (((((H xS).trans ((H HB).mono (H xS).size)).setCell (p:=(U (w.heap.size + 1 + 1) 1)) (by simp; omega) (.slice a' l.length uD)).setCell (p:=(U (w.heap.size + 1) 0)) (by simp) (I n)).setCell (p:=(U (w.heap.size + 1) 1)) (by simp) (.slice a' l.length uD))
 generalize (((w1.setCell (U (w.heap.size + 1 + 1) 1) (.slice a' l.length uD)).setCell (U (w.heap.size + 1) 0) (I n)).setCell (U (w.heap.size + 1) 1) (.slice a' l.length uD)) = W5 at *
 try simp only [Exit.inBlock,Exit.then]
 refine bodyPost_ret (by simp [results,Tryz.results9,go_sem,d0,d1]; try rfl) rfl ?_
 exact ⟨_,rfl,H jo,H ug⟩
theorem eqBook_same (n:Int) (va vb:Value) (l:List Od) (w:World) (ha:RdR Od.vs 6 w va l) (Y:RdR Od.vs 6 w vb l) :
  Calls Tryz.prog 13 #[.agg #[I n,va],.agg #[I n,vb]] w fun e w'=>e = .returned (.bool true)∧yn w w':=by
 have HA:=M ha
 have HB:=M Y
 obtain ⟨aa,ca,rfl,_,_⟩:=ha
 obtain ⟨ab,cb,rfl,_,_⟩:=Y
 have H0:Hid (yn w ((w.alloc (A #[I n,.slice aa l.length ca] 34)).alloc (A #[I n,.slice ab l.length cb] 34))):=(fE _ _).alloc (by rw [zi]; omega) _
 go_enter Tryz.func13,Tryz.ntmps13
 go_wp2_with fail
 refine (eqOrderS_same _ _ l _ (zh (H HA) (H H0) ya) (zh (H HB) (H H0) ya)).mono ?_
 rintro e w1 ⟨rfl,ui⟩
 have ud:=M (fH (H H0) ui)
 clear ui
 go_wp2_with fail
 go_ret
 exact ⟨rfl,H ud⟩
theorem toOrderS_nil (a:Option Addr) (cap:Nat) (w:World) :
  Calls Tryz.prog 29 #[.slice a 0 cap] w fun e w'=>∃ ad X,e = .returned (.slice (some ad) 0 X)∧yn w w':=by
 obtain ⟨i0,hi,uL,uM,uF⟩:=info_parts Tryz.infoOrder
 go_enter Tryz.func29,Tryz.ntmps29
 go_wp2_with (at_make; go_must (refine wpList_make_full _ rfl _ _ 32 rfl w.heap.size 78 i0 _ 6 Tryz.underlying32 hi uL uM _ _ _ _ 0 rfl rfl rfl rfl (by rw [uF]; omega) (by unfold maxLen; omega) ya ?_); intro w1 xR jw)
 have HB:=M ((Below.refl w.heap.size w).grown jw ya (fun k hk=>by cases hk))
 clear xR jw
 refine wp_loop_rounds 1 ?_
 rw [rounds_succ]
 go_wp2_with fail
 go_ret
 exact ⟨_,_,rfl,H HB⟩
theorem toBook_nil (n:Int) (a:Option Addr) (cap:Nat) (w:World) :
  Calls Tryz.prog 9 #[.agg #[I n,.slice a 0 cap]] w fun e w'=>∃ ad X,e = .returned (.agg #[I n,.slice (some ad) 0 X])∧yn w w':=by
 have xK:=zi w (A #[I n,.slice a 0 cap] 24)
 have ue:((w.alloc (A #[I n,.slice a 0 cap] 24)).alloc (A #[I 0,.slice none 0 0] 34)).heap.size = w.heap.size + 1 + 1:=by rw [zi,xK]
 have r1:=zn (w.alloc (A #[I n,.slice a 0 cap] 24)) [I 0,.slice none 0 0] 34
 have r2:=zn ((w.alloc (A #[I n,.slice a 0 cap] 24)).alloc (A #[I 0,.slice none 0 0] 34)) [I n,.slice none 0 0] 34
 have t1:=bY (n:=2) (heap_alloc_new (w.alloc (A #[I n,.slice a 0 cap] 24)) (A #[I 0,.slice none 0 0] 34)) (by simp)
 have t2:=bY (n:=2) (heap_alloc_new ((w.alloc (A #[I n,.slice a 0 cap] 24)).alloc (A #[I 0,.slice none 0 0] 34)) (A #[I n,.slice none 0 0] 34)) (by simp)
 rw [xK] at r1 t1
 rw [ue] at r2 t2
 have xS:Hid (yn w (((w.alloc (A #[I n,.slice a 0 cap] 24)).alloc (A #[I 0,.slice none 0 0] 34)).alloc (A #[I n,.slice none 0 0] 34))) :=
  ((fE _ _).alloc (by rw [xK]; omega) _).alloc (by rw [ue]; omega) _
 have jJ:(((w.alloc (A #[I n,.slice a 0 cap] 24)).alloc (A #[I 0,.slice none 0 0] 34)).alloc (A #[I n,.slice none 0 0] 34)).heap.size = w.heap.size + 1 + 1 + 1:=by rw [zi,ue]
 have r1':=zc r1 (C:=w.heap.size + 1 + 1) (((Below.refl _ _).alloc (by rw [ue]; omega) (A #[I n,.slice none 0 0] 34))) (by omega)
 have t1':=zo t1 (C:=w.heap.size + 1 + 1) (((Below.refl _ _).alloc (by rw [ue]; omega) (A #[I n,.slice none 0 0] 34))) (by omega)
 have HX:Hid (_∧_∧_∧_):=⟨r1',t1',r2,t2⟩
 have vT:=M jJ
 clear r1 t1 r1' t1' r2 t2 xK ue jJ
 go_enter Tryz.func9,Tryz.ntmps9
 go_wp2_with fail
 generalize hW3:(((w.alloc (A #[I n,.slice a 0 cap] 24)).alloc (A #[I 0,.slice none 0 0] 34)).alloc (A #[I n,.slice none 0 0] 34)) = W3 at xS HX vT ⊢
 clear hW3
 refine (toOrderS_nil a cap _).mono ?_
 rintro e w1 ⟨ad',uD,rfl,ui⟩
 have HB:=M ui
 obtain ⟨x1,x2,x3,x4⟩:=H HX
 have y1:=zc x1 ui (by rw [H vT]; omega)
 have y2:=zo x2 ui (by rw [H vT]; omega)
 have y3:=zc x3 ui (by rw [H vT]; omega)
 have y4:=zo x4 ui (by rw [H vT]; omega)
 have c0:w1.cell? (U (w.heap.size + 1) 0) = some (I 0):=y1 0 _ rfl
 have c1:w1.cell? (U (w.heap.size + 1) 1) = some (.slice none 0 0):=y1 1 _ rfl
 have c2:w1.cell? (U (w.heap.size + 1 + 1) 0) = some (I n):=y3 0 _ rfl
 have c3:w1.cell? (U (w.heap.size + 1 + 1) 1) = some (.slice none 0 0):=y3 1 _ rfl
 have f0:w1.frozen? (U (w.heap.size + 1) 0) = false:=(y2 0 (by omega)).2
 have f1:w1.frozen? (U (w.heap.size + 1) 1) = false:=(y2 1 (by omega)).2
 have f2:w1.frozen? (U (w.heap.size + 1 + 1) 0) = false:=(y4 0 (by omega)).2
 have f3:w1.frozen? (U (w.heap.size + 1 + 1) 1) = false:=(y4 1 (by omega)).2
 clear ui x1 x2 x3 x4 y1 y2 y3 y4
 go_wp2_with fail
 have xD:((U (w.heap.size + 1) 0):Addr) ≠ (U (w.heap.size + 1) 1):=fun e=>by simp at e
 have hnb:∀ i j,((U (w.heap.size + 1 + 1) i):Addr) ≠ (U (w.heap.size + 1) j):=fun i j e=>by have:=congrArg Addr.block e; simp at this
 have d1:(((w1.setCell (U (w.heap.size + 1 + 1) 1) (.slice (some ad') 0 uD)).setCell (U (w.heap.size + 1) 0) (I n)).setCell (U (w.heap.size + 1) 1) (.slice (some ad') 0 uD)).cell? (U (w.heap.size + 1) 1) = some (.slice (some ad') 0 uD) :=
  yM _ _ _ ((yL _ _ _ _ xD).trans ((yL _ _ _ _ (hnb 1 1)).trans c1))
 have d0:(((w1.setCell (U (w.heap.size + 1 + 1) 1) (.slice (some ad') 0 uD)).setCell (U (w.heap.size + 1) 0) (I n)).setCell (U (w.heap.size + 1) 1) (.slice (some ad') 0 uD)).cell? (U (w.heap.size + 1) 0) = some (I n) :=
  (yL _ _ _ _ xD.symm).trans (yM _ _ _ ((yL _ _ _ _ (hnb 1 0)).trans c0))
 have ug:=M (((((H xS).trans ((H HB).mono (H xS).size)).setCell (p:=(U (w.heap.size + 1 + 1) 1)) (by simp; omega) (.slice (some ad') 0 uD)).setCell (p:=(U (w.heap.size + 1) 0)) (by simp) (I n)).setCell (p:=(U (w.heap.size + 1) 1)) (by simp) (.slice (some ad') 0 uD))
 generalize (((w1.setCell (U (w.heap.size + 1 + 1) 1) (.slice (some ad') 0 uD)).setCell (U (w.heap.size + 1) 0) (I n)).setCell (U (w.heap.size + 1) 1) (.slice (some ad') 0 uD)) = W5 at *
 try simp only [Exit.inBlock,Exit.then]
 refine bodyPost_ret (by simp [results,Tryz.results9,go_sem,d0,d1]; try rfl) rfl ?_
 exact ⟨ad',uD,rfl,H ug⟩
theorem fj (n:Int) (v:Value) (l:List Od) (w:World) (hr:RdR Od.vs 6 w v l) :
  Calls Tryz.prog 9 #[.agg #[I n,v]] w fun e w'=>∃ ad X,e = .returned (.agg #[I n,.slice (some ad) l.length X])∧OwnR Od.vs 6 w.heap.size w' (.slice (some ad) l.length X) l∧yn w w':=by
 by_cases hl:l = []
 ·subst hl
  obtain ⟨a,cap,rfl,_,_⟩:=hr
  refine (toBook_nil n a cap w).mono ?_
  rintro e w' ⟨ad,X,rfl,Y⟩
  exact ⟨ad,X,rfl,⟨some ad,X,rfl,by simp,fun h=>absurd rfl h⟩,Y⟩
 ·refine (toBook_any n v l w hr).mono ?_
  rintro e w' ⟨v',rfl,N,Y⟩
  have HO:=N
  obtain ⟨a,cap,rfl,_,h⟩:=N
  obtain ⟨g,rfl,_⟩:=h hl
  exact ⟨_,_,rfl,HO,Y⟩
end Go.Proofs.YtnphbkgfjanmgaaGreatDoor
namespace Go.Proofs.YtnphbkgfjanmgaaGreatDoor
open Go.RowKit Go.ChangeShapes Go.WideShapes Go.Deep
set_option linter.unusedVariables false

structure Od.ok (c:Od):Prop where
 id:(Lit.int .i64 c.id).wf = true
 side:(Lit.int .i64 c.side).wf = true
 ticks:(Lit.int .i64 c.ticks).wf = true
 left:(Lit.int .i64 c.left).wf = true
 life:(Lit.int .i64 c.life).wf = true
 tag:c.tag.size ≤ maxLen
section
variable {za:Type} {enc:TypeId × Value→za} {w:World} {base:Nat} {spare:Nat→Bool} {held:Bool}

theorem list6 {L:List Value} (h:L.length = 6):∃ v0 v1 v2 v3 v4 v5,L = [v0,v1,v2,v3,v4,v5] :=
 match L,h with
 | [v0,v1,v2,v3,v4,v5],_=>⟨v0,v1,v2,v3,v4,v5,rfl⟩
theorem od_opened {fuel:Nat} {L:List Value} {x:DataW za × List MemPlace} (h:DataW.trod enc Tryz.prog w base spare held fuel 91 L = some x):∃ c:Od,L = c.vs∧c.ok:=by
 obtain ⟨xs,n,_,_,xA,hxl,hf⟩:=DataW.trod_struct Tryz.underlying91 h
 have hl6:L.length = 6:=xA.trans (by kernel_rfl)
 have k3:Tryz.prog.cellsOf 3 = 1:=by kernel_rfl
 have k9:Tryz.prog.cellsOf 9 = 1:=by kernel_rfl
 have hx:∀ i,i < 6→∃ y,xs[i]? = some y:=fun i hi=>⟨_,yH (by rw [hxl]; exact hi)⟩
 obtain ⟨y0,e0⟩:=hx 0 (by omega)
 obtain ⟨y1,e1⟩:=hx 1 (by omega)
 obtain ⟨y2,e2⟩:=hx 2 (by omega)
 obtain ⟨y3,e3⟩:=hx 3 (by omega)
 obtain ⟨y4,e4⟩:=hx 4 (by omega)
 obtain ⟨y5,e5⟩:=hx 5 (by omega)
 have f0:DataW.trod enc Tryz.prog w base spare held n 3 ((L.drop 0).take (Tryz.prog.cellsOf 3)) = some y0:=(hf 0 _ rfl).trans e0
 have f1:DataW.trod enc Tryz.prog w base spare held n 3 ((L.drop 1).take (Tryz.prog.cellsOf 3)) = some y1:=(hf 1 _ rfl).trans e1
 have f2:DataW.trod enc Tryz.prog w base spare held n 3 ((L.drop 2).take (Tryz.prog.cellsOf 3)) = some y2:=(hf 2 _ rfl).trans e2
 have f3:DataW.trod enc Tryz.prog w base spare held n 3 ((L.drop 3).take (Tryz.prog.cellsOf 3)) = some y3:=(hf 3 _ rfl).trans e3
 have f4:DataW.trod enc Tryz.prog w base spare held n 3 ((L.drop 4).take (Tryz.prog.cellsOf 3)) = some y4:=(hf 4 _ rfl).trans e4
 have f5:DataW.trod enc Tryz.prog w base spare held n 9 ((L.drop 5).take (Tryz.prog.cellsOf 9)) = some y5:=(hf 5 _ rfl).trans e5
 clear hf hx e0 e1 e2 e3 e4 e5 h xA
 obtain ⟨v0,v1,v2,v3,v4,v5,rfl⟩:=list6 hl6
 clear hl6
 simp only [k3,k9,List.drop_zero,yU,yT,List.take_zero] at f0 f1 f2 f3 f4 f5
 obtain ⟨n0,c0,_,b0⟩:=DataW.trod_int Tryz.underlying3 f0
 obtain ⟨n1,c1,_,b1⟩:=DataW.trod_int Tryz.underlying3 f1
 obtain ⟨n2,c2,_,b2⟩:=DataW.trod_int Tryz.underlying3 f2
 obtain ⟨n3,c3,_,b3⟩:=DataW.trod_int Tryz.underlying3 f3
 obtain ⟨n4,c4,_,b4⟩:=DataW.trod_int Tryz.underlying3 f4
 obtain ⟨n5,c5,_,b5⟩:=DataW.trod_string Tryz.underlying9 f5
 simp only [List.cons.injEq,and_true] at c0 c1 c2 c3 c4 c5
 subst c0 c1 c2 c3 c4 c5
 exact ⟨⟨n0,n1,n2,n3,n4,n5⟩,rfl,⟨b0,b1,b2,b3,b4,b5⟩⟩
def IsOrders (w:World) (a:Option Addr) (len cap:Nat):Prop :=
 len ≤ maxLen∧(len ≤ 1073741824→∃ l:List Od,l.length = len∧RdR Od.vs 6 w (.slice a len cap) l∧∀ c ∈ l,c.ok)
theorem orders_opened {fuel:Nat} {L:List Value} {x:DataW za × List MemPlace} (h:DataW.trod enc Tryz.prog w base spare held fuel 22 L = some x):∃ a len cap,L = [.slice a len cap]∧IsOrders w a len cap:=by
 rcases open_slice Tryz.underlying22 h with ⟨kq,_⟩ | ⟨ad,len,cap,m,n,xg,Pl,kq,_,hl,hm,hmm,_,hel⟩
 ·exact ⟨none,0,0,kq,Nat.zero_le _,fun _=>⟨[],rfl,⟨none,0,rfl,by simp,fun h=>absurd rfl h⟩,by simp⟩⟩
 ·refine ⟨some ad,len,cap,kq,?_⟩
  have k37:Tryz.prog.cellsOf 91 = 6:=by kernel_rfl
  rw [k37] at hel
  have hlm:len ≤ m:=by rw [hmm]; split <;> omega
  refine ⟨by omega,fun Y=>?_⟩
  have hc:∀ i,i < len→∃ c:Od,c.ok∧∀ j v,c.vs[j]? = some v→w.cell? (ad.add (i * 6 + j)) = some v:=by
   intro i hi
   obtain ⟨cs',Q,E⟩:=hel i (by omega)
   obtain ⟨c,rfl,vw⟩:=od_opened E
   obtain ⟨_,_,xr⟩:=World.cells?_some Q
   refine ⟨c,vw,fun j v hv=>?_⟩
   have:=xr j (yG.1 hv).1
   rw [add_add] at this
   rw [this,hv]
  have xz:0 < len→∃ b off,ad = (U b off)∧b < w.heap.size:=by
   intro hp
   obtain ⟨c,_,h0⟩:=hc 0 hp
   have h0:=h0 0 _ rfl
   obtain ⟨b,off,spot⟩:=ad
   have hspot:spot = none:=by simpa [Addr.add] using World.cell?_spot h0
   subst hspot
   exact ⟨b,off,rfl,by have:=yK w _ h0; simpa [Addr.add] using this⟩
  haveI:Inhabited Od:=⟨zOd⟩
  obtain ⟨cl,hF⟩:=choose_lt hc
  have hget:∀ i c,((List.range len).map cl)[i]? = some c→i < len∧c = cl i:=by
   intro i c hi
   have xI:i < len:=by simpa using (yG.1 hi).1
   refine ⟨xI,?_⟩
   rw [List.getElem?_map,List.getElem?_range xI] at hi
   simpa using hi.symm
  refine ⟨(List.range len).map cl,by simp,⟨some ad,cap,by simp,by simpa using Y,fun xD=>?_⟩,fun c hcm=>?_⟩
  ·have hp:0 < len:=by
    rcases Nat.eq_zero_or_pos len with h0 | h0
    ·subst h0; simp at xD
    ·exact h0
   obtain ⟨b,off,rfl,xI⟩:=xz hp
   refine ⟨b,off,rfl,xI,fun i c hi j v hv=>?_⟩
   obtain ⟨qa,rfl⟩:=hget i c hi
   have:=(hF i qa).2 j v hv
   rw [Addr.add_mid] at this
   rw [Nat.add_assoc]; exact this
  ·obtain ⟨i,hi⟩:=List.mem_iff_getElem?.1 hcm
   obtain ⟨qa,rfl⟩:=hget i c hi
   exact (hF i qa).1
theorem list_two {L:List Value} (h:L.length = 2):∃ v0 v1,L = [v0,v1]:=match L,h with
 | [v0,v1],_=>⟨v0,v1,rfl⟩
theorem book_opened {fuel:Nat} {L:List Value} {x:DataW za × List MemPlace} (h:DataW.trod enc Tryz.prog w base spare held fuel 24 L = some x):∃ n a len cap,L = [I n,.slice a len cap]∧(Lit.int .i64 n).wf = true∧IsOrders w a len cap:=by
 obtain ⟨xs,k,_,_,xA,hxl,hf⟩:=DataW.trod_struct Tryz.underlying24 h
 have hl2:L.length = 2:=xA.trans (by kernel_rfl)
 have k3:Tryz.prog.cellsOf 3 = 1:=by kernel_rfl
 have k9:Tryz.prog.cellsOf 22 = 1:=by kernel_rfl
 have hx:∀ i,i < 2→∃ y,xs[i]? = some y:=fun i hi=>⟨_,yH (by rw [hxl]; exact hi)⟩
 obtain ⟨y0,e0⟩:=hx 0 (by omega)
 obtain ⟨y1,e1⟩:=hx 1 (by omega)
 have f0:DataW.trod enc Tryz.prog w base spare held k 3 ((L.drop 0).take (Tryz.prog.cellsOf 3)) = some y0:=(hf 0 _ rfl).trans e0
 have f1:DataW.trod enc Tryz.prog w base spare held k 22 ((L.drop 1).take (Tryz.prog.cellsOf 22)) = some y1:=(hf 1 _ rfl).trans e1
 obtain ⟨v0,v1,rfl⟩:=list_two hl2
 simp only [k3,k9,List.drop_zero,yU,yT,List.take_zero] at f0 f1
 obtain ⟨n,c0,_,b0⟩:=DataW.trod_int Tryz.underlying3 f0
 obtain ⟨a,len,cap,c1,N⟩:=orders_opened f1
 simp only [List.cons.injEq,and_true] at c0 c1
 subst c0 c1
 exact ⟨n,a,len,cap,rfl,b0,N⟩
end
end Go.Proofs.YtnphbkgfjanmgaaGreatDoor
namespace Go.Proofs.YtnphbkgfjanmgaaGreatDoor
open Go.RowKit
def DB (vs:List (Option Value)) (fG:World→Value→Prop) (i:Nat) (B:World→Value→Prop) (k:Nat) (p:Prop) (W:World) (j:Nat) (v:Value):Prop:=(∀ u,vs[j]? = some (some u)→v = u)∧(j = i→fG W v)∧(j = k→B W v)
section
variable {vs:List (Option Value)} {fG B:World→Value→Prop} {i k j:Nat} {p:Prop} {W:World} {v:Value}
theorem dd (hA:∀ W W' v,yn W W'→fG W v→fG W' v) (hB:∀ W W' v,yn W W'→B W v→B W' v):∀ p W W' j v,yn W W'→DB vs fG i B k p W j v→DB vs fG i B k p W' j v:=fun p W W' j v Y h=>⟨h.1,fun e=>hA W W' v Y (h.2.1 e),fun e=>hB W W' v Y (h.2.2 e)⟩
theorem db_v (h:vs[j]? = some (some v)) (hi:j ≠ i) (hk:j ≠ k):DB vs fG i B k p W j v:=⟨fun u hu=>by rw [h] at hu; cases hu; rfl,fun e=>absurd e hi,fun e=>absurd e hk⟩
theorem db_a (h:vs[i]? = some none) (ha:fG W v) (hk:i ≠ k):DB vs fG i B k p W i v:=⟨fun u hu=>(by rw [h] at hu; cases hu),fun _=>ha,fun e=>absurd e hk⟩
theorem db_b (h:vs[k]? = some none) (Y:B W v) (hk:k ≠ i):DB vs fG i B k p W k v:=⟨fun u hu=>(by rw [h] at hu; cases hu),fun e=>absurd e hk,fun _=>Y⟩
end
end Go.Proofs.YtnphbkgfjanmgaaGreatDoor
