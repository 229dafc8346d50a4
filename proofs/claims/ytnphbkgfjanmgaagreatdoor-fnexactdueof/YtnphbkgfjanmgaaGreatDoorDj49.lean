/-
  Orders as records of six cells: copied one by one and in rows, held against each other, their size: proved by walking the laws' own helpers. (what walks the functions of the model or of the laws)
-/
import Derived.Test.YtnphbkgfjanmgaaGreatDoorDj09
import Derived.LoopN
import Derived.Deep.Slices
import Derived.ChangeArms
set_option linter.unusedVariables false
set_option maxHeartbeats 6400000
set_option maxRecDepth 100000
namespace Go.Proofs.YtnphbkgfjanmgaaGreatDoor
open Go.RowKit
theorem toOrder_any (o:Od) (w:World) :
  Calls Tryz.prog 55 #[.agg (yx o.id o.side o.ticks o.left o.life o.tag).toArray] w fun e w'=>e = .returned (.agg (yx o.id o.side o.ticks o.left o.life o.tag).toArray)∧yp w w':=by
 obtain ⟨id,side,ticks,left,life,tag⟩:=o
 simp only
 go_enter Tryz.func55,Tryz.ntmps55
 go_wp2_with fail
 go_returns
 refine ⟨rfl,?_⟩
 go_grown
theorem toOrderS_any (v:Value) (l:List Od) (w:World) (hr:RdR Od.vs 6 w v l) :
  Calls Tryz.prog 29 #[v] w fun e w'=>∃ v',e = .returned v'∧OwnR Od.vs 6 w.heap.size w' v' l∧yp w w':=by
 obtain ⟨a,cap,rfl,hl,hc⟩:=hr
 obtain ⟨i0,hi,uH,uI,uW⟩:=info_parts Tryz.infoOrder
 have xt:∀ (k:Nat) (c:Od),l[k]? = some c→∃ b off,a = some (Q b off)∧b < w.heap.size∧w.rangeAt b (off + k * 6) c.vs:=by
  intro k c hk
  obtain ⟨b,off,N,Y,h3⟩:=hc (by intro h; rw [h] at hk; simp at hk)
  exact ⟨b,off,N,Y,h3 k c hk⟩
 have HC:=H xt
 clear xt hc
 go_enter Tryz.func29,Tryz.ntmps29
 go_wp2_with (at_make; go_must (refine wpList_make_full _ rfl _ _ 32 rfl w.heap.size 78 i0 _ 6 Tryz.underlying32 hi uH uI _ _ _ _ l.length rfl rfl rfl rfl (by rw [uW]; omega) (by unfold maxLen; omega) yb ?_); intro w1 xS ju)
 have HA:=H (fill_made (f:=Od.vs) xS ju)
 clear xS ju hi uH uI uW
 go_loopw [4] (fun i wr=>∃ k:Nat,k ≤ l.length∧i = I k∧FillR Od.vs 6 l.length w.heap.size w wr (l.take k)) (fun i _=>l.length - (intOf i).toNat)
 case atStart=>exact ⟨0,Nat.zero_le _,rfl,by simpa using U HA⟩
 case round =>
  obtain ⟨k,hk,rfl,jE⟩:=hrel
  have HF:=H jE
  clear jE HA
  by_cases xJ:k < l.length
  ·obtain ⟨c,ur⟩:∃ c,l[k]? = some c:=⟨_,yI xJ⟩
   have jK:=H ur
   obtain ⟨b,off,rfl,E,X⟩:=U HC k c ur
   have kC:=zc X (U HF).2.2.2.2 E
   obtain ⟨g0,g1,g2,g3,g4,g5⟩:=zB kC
   have uF:(k:Int) < l.length:=by omega
   clear ur X E kC
   go_wp2_with fail
   refine (toOrder_any c _).mono ?_
   rintro e w2 ⟨rfl,xL⟩
   have vC:=H (fill_below (U HF) xL yb)
   clear xL
   obtain ⟨⟨x0,y0,z0⟩,⟨x1,y1,z1⟩,⟨x2,y2,z2⟩,⟨x3,y3,z3⟩,⟨x4,y4,z4⟩,x5,y5,z5⟩:=there6 (fill_there (U vC) xJ)
   go_wp2_with fail
   go_roundw
   case rel =>
    refine ⟨k + 1,by omega,by go_num,?_⟩
    have h:=fill_step c (U vC) (by rw [List.length_take]; omega) Od.len
    rw [← takeR l k c (U jK),show (l.take k).length = k by rw [List.length_take]; omega] at h
    exact h
   case measure=>simp [intOf]; omega
  ·go_wp2_with fail
   go_ret
   have h:=U HF
   rw [xa (by omega)] at h
   exact ⟨_,rfl,fill_own h rfl hl,h.2.2.2.2⟩
theorem eqOrder_same (o:Od) (w:World) :
  Calls Tryz.prog 61 #[.agg (yx o.id o.side o.ticks o.left o.life o.tag).toArray,.agg (yx o.id o.side o.ticks o.left o.life o.tag).toArray] w fun e w'=>e = .returned (.bool true)∧yp w w':=by
 obtain ⟨id,side,ticks,left,life,tag⟩:=o
 simp only
 go_enter Tryz.func61,Tryz.ntmps61
 go_wp2_with fail
 go_returns
 refine ⟨rfl,?_⟩
 go_grown
theorem eqOrderS_same (va vb:Value) (l:List Od) (w:World) (ha:RdR Od.vs 6 w va l) (E:RdR Od.vs 6 w vb l) :
  Calls Tryz.prog 33 #[va,vb] w fun e w'=>e = .returned (.bool true)∧yp w w':=by
 obtain ⟨aa,ca,rfl,hl,hca⟩:=ha
 obtain ⟨ab,cb,rfl,_,hcb⟩:=E
 have xt:∀ (k:Nat) (c:Od),l[k]? = some c→∃ b off b' qr,aa = some (Q b off)∧ab = some (Q b' qr)∧b < w.heap.size∧b' < w.heap.size∧w.rangeAt b (off + k * 6) c.vs∧w.rangeAt b' (qr + k * 6) c.vs:=by
  intro k c hk
  have xD:l ≠ []:=by intro h; rw [h] at hk; simp at hk
  obtain ⟨b,off,N,Y,h3⟩:=hca xD
  obtain ⟨b',qr,pp,oE,h3'⟩:=hcb xD
  exact ⟨b,off,b',qr,N,pp,Y,oE,h3 k c hk,h3' k c hk⟩
 have HC:=H xt
 clear xt hca hcb
 go_enter Tryz.func33,Tryz.ntmps33
 go_wp2_with fail
 go_loopw [5] (fun i wr=>∃ k:Nat,k ≤ l.length∧i = I k∧yp w wr) (fun i _=>l.length - (intOf i).toNat)
 case atStart=>exact ⟨0,Nat.zero_le _,rfl,Below.refl _ _⟩
 case round =>
  obtain ⟨k,hk,rfl,xl⟩:=hrel
  have HB:=H xl
  clear xl
  by_cases xJ:k < l.length
  ·obtain ⟨c,ur⟩:∃ c,l[k]? = some c:=⟨_,yI xJ⟩
   obtain ⟨b,off,b',qr,rfl,rfl,E,hb',X,qp⟩:=U HC k c ur
   obtain ⟨g0,g1,g2,g3,g4,g5⟩:=zB (zc X (U HB) E)
   obtain ⟨e0,e1,e2,e3,e4,e5⟩:=zB (zc qp (U HB) hb')
   have uF:(k:Int) < l.length:=by omega
   clear ur X qp E hb'
   go_wp2_with fail
   go_region_with (go_at_call 61; refine (eqOrder_same c _).mono ?_; rintro e w2 ⟨rfl,xL⟩; have xw:=H ((U HB).drew.trans (xL.mono (U HB).drew.size)); clear xL)
   go_wp2_with fail
   go_roundw
   case rel=>exact ⟨k + 1,by omega,by go_num,U xw⟩
   case measure=>simp [intOf]; omega
   all_goals exact ⟨⟨k + 1,by omega,by go_num,U xw⟩,by simp [intOf]; omega⟩
  ·go_wp2_with fail
   go_ret
   exact ⟨rfl,U HB⟩
theorem szOrder_any (o:Od) (x:Int) (w:World) (h0:0 ≤ x) (N:x ≤ 1073741824) (hg:o.tag.size ≤ maxLen) :
  Calls Tryz.prog 46 #[.agg (yx o.id o.side o.ticks o.left o.life o.tag).toArray,I x] w fun e w' =>
   ∃ y:Int,e = .returned (I y)∧-1 ≤ y∧y ≤ x∧yp w w':=by
 obtain ⟨id,side,ticks,left,life,g⟩:=o
 simp only at *
 unfold maxLen at hg
 by_cases h:x < g.size
 ·go_enter Tryz.func46,Tryz.ntmps46
  go_wp2_with fail
  go_ret
  exact ⟨_,rfl,by omega,by omega,by go_grown⟩
 ·go_enter Tryz.func46,Tryz.ntmps46
  go_wp2_with fail
  go_ret
  exact ⟨_,rfl,by omega,by omega,by go_grown⟩
theorem szOrderS_any (v:Value) (l:List Od) (w:World) (hr:RdR Od.vs 6 w v l) (hl:l.length ≤ 1048576) (hg:∀ c ∈ l,c.tag.size ≤ maxLen) :
  Calls Tryz.prog 24 #[v,I 1048576] w fun e w'=>∃ y:Int,e = .returned (I y)∧-1 ≤ y∧y ≤ 1048576∧yp w w':=by
 obtain ⟨a,cap,rfl,_,hc⟩:=hr
 have xt:∀ (k:Nat) (c:Od),l[k]? = some c→∃ b off,a = some (Q b off)∧b < w.heap.size∧w.rangeAt b (off + k * 6) c.vs:=by
  intro k c hk
  obtain ⟨b,off,N,Y,h3⟩:=hc (by intro h; rw [h] at hk; simp at hk)
  exact ⟨b,off,N,Y,h3 k c hk⟩
 have HC:=H xt
 have HG:=H hg
 clear xt hc hg
 have px:¬ (1048576 - (l.length:Int) < 0):=by omega
 go_enter Tryz.func24,Tryz.ntmps24
 go_wp2_with fail
 go_loopw [1,5] (fun xv i wr=>∃ (x:Int) (k:Nat),xv = I x∧0 ≤ x∧x ≤ 1048576∧k ≤ l.length∧i = I k∧yp w wr) (fun _ i _=>l.length - (intOf i).toNat)
 case atStart=>exact ⟨_,0,rfl,by omega,by omega,Nat.zero_le _,rfl,Below.refl _ _⟩
 case round =>
  obtain ⟨x,k,rfl,hx0,hx1,hk,rfl,xl⟩:=hrel
  have HB:=H xl
  clear xl
  by_cases xJ:k < l.length
  ·obtain ⟨c,ur⟩:∃ c,l[k]? = some c:=⟨_,yI xJ⟩
   obtain ⟨b,off,rfl,E,X⟩:=U HC k c ur
   have HS:=H (U HG c (yP ur))
   obtain ⟨g0,g1,g2,g3,g4,g5⟩:=zB (zc X (U HB) E)
   have uF:(k:Int) < l.length:=by omega
   clear ur X E
   go_wp2_with fail
   refine (szOrder_any c x _ hx0 (by omega) (U HS)).mono ?_
   rintro e w2 ⟨y,rfl,hy0,hy1,xL⟩
   have xw:=H (fC (U HB) xL)
   clear xL
   by_cases hy:y < 0
   ·go_wp2_with fail
    go_ret
    exact ⟨_,rfl,by omega,by omega,U xw⟩
   ·go_wp2_with fail
    go_roundw
    case rel=>exact ⟨y,k + 1,rfl,by omega,by omega,by omega,by go_num,U xw⟩
    case measure=>simp [intOf]; omega
  ·go_wp2_with fail
   go_ret
   exact ⟨_,rfl,by omega,by omega,U HB⟩
theorem szOrderS_long (a:Option Addr) (len cap:Nat) (w:World) (hl:1048576 < len) (hm:len ≤ maxLen) :
  Calls Tryz.prog 24 #[.slice a len cap,I 1048576] w fun e w'=>e = .returned (I (-1))∧w' = w:=by
 unfold maxLen at hm
 have px:1048576 - (len:Int) < 0:=by omega
 go_enter Tryz.func24,Tryz.ntmps24
 go_wp2_with fail
 go_ret
 exact ⟨rfl,rfl⟩
theorem szBook_any (n:Int) (v:Value) (l:List Od) (w:World) (hr:RdR Od.vs 6 w v l) (hl:l.length ≤ 1048576) (hg:∀ c ∈ l,c.tag.size ≤ maxLen) :
  Calls Tryz.prog 6 #[.agg #[I n,v],I 1048576] w fun e w'=>∃ y:Int,e = .returned (I y)∧-1 ≤ y∧y ≤ 1048576∧yp w w':=by
 have HR:=H hr
 obtain ⟨a,cap,rfl,_,_⟩:=hr
 have HG:=H hg
 clear hg
 have HA:Hid (yp w (w.alloc (L #[I n,.slice a l.length cap] 24))):=fw _ _
 go_enter Tryz.func6,Tryz.ntmps6
 go_wp2_with fail
 refine (szOrderS_any _ l _ (zh (U HR) (U HA) yb) hl (U HG)).mono ?_
 rintro e w1 ⟨y,rfl,hy0,hy1,uk⟩
 have HB:=H (fC (U HA) uk)
 clear uk
 by_cases hy:y < 0
 ·go_wp2_with fail
  go_ret
  exact ⟨_,rfl,by omega,by omega,U HB⟩
 ·go_wp2_with fail
  go_ret
  exact ⟨_,rfl,by omega,by omega,U HB⟩
theorem szBook_long (n:Int) (a:Option Addr) (len cap:Nat) (w:World) (hl:1048576 < len) (hm:len ≤ maxLen) :
  Calls Tryz.prog 6 #[.agg #[I n,.slice a len cap],I 1048576] w fun e w'=>e = .returned (I (-1))∧yp w w':=by
 have HZ:=H (fun W=>szOrderS_long a len cap W hl hm)
 clear hl hm
 go_enter Tryz.func6,Tryz.ntmps6
 go_wp2_with fail
 refine (U HZ _).mono ?_
 rintro e w1 ⟨rfl,rfl⟩
 go_wp2_with fail
 go_ret
 exact ⟨rfl,by go_grown⟩
theorem toBook_any (n:Int) (v:Value) (l:List Od) (w:World) (hr:RdR Od.vs 6 w v l) :
  Calls Tryz.prog 9 #[.agg #[I n,v]] w fun e w'=>∃ v',e = .returned (.agg #[I n,v'])∧OwnR Od.vs 6 w.heap.size w' v' l∧yp w w':=by
 have HR:=H hr
 obtain ⟨a,cap,rfl,_,_⟩:=hr
 have xK:=zj w (L #[I n,.slice a l.length cap] 24)
 have uf:((w.alloc (L #[I n,.slice a l.length cap] 24)).alloc (L #[I 0,.slice none 0 0] 34)).heap.size = w.heap.size + 1 + 1:=by rw [zj,xK]
 have r1:=zn (w.alloc (L #[I n,.slice a l.length cap] 24)) [I 0,.slice none 0 0] 34
 have r2:=zn ((w.alloc (L #[I n,.slice a l.length cap] 24)).alloc (L #[I 0,.slice none 0 0] 34)) [I n,.slice none 0 0] 34
 have t1:=bR (n:=2) (heap_alloc_new (w.alloc (L #[I n,.slice a l.length cap] 24)) (L #[I 0,.slice none 0 0] 34)) (by simp)
 have t2:=bR (n:=2) (heap_alloc_new ((w.alloc (L #[I n,.slice a l.length cap] 24)).alloc (L #[I 0,.slice none 0 0] 34)) (L #[I n,.slice none 0 0] 34)) (by simp)
 rw [xK] at r1 t1
 rw [uf] at r2 t2
 have xW:Hid (yp w (((w.alloc (L #[I n,.slice a l.length cap] 24)).alloc (L #[I 0,.slice none 0 0] 34)).alloc (L #[I n,.slice none 0 0] 34))) :=
  ((fw _ _).alloc (by rw [xK]; omega) _).alloc (by rw [uf]; omega) _
 have jJ:(((w.alloc (L #[I n,.slice a l.length cap] 24)).alloc (L #[I 0,.slice none 0 0] 34)).alloc (L #[I n,.slice none 0 0] 34)).heap.size = w.heap.size + 1 + 1 + 1:=by rw [zj,uf]
 have r1':=zc r1 (C:=w.heap.size + 1 + 1) (((Below.refl _ _).alloc (by rw [uf]; omega) (L #[I n,.slice none 0 0] 34))) (by omega)
 have t1':=zo t1 (C:=w.heap.size + 1 + 1) (((Below.refl _ _).alloc (by rw [uf]; omega) (L #[I n,.slice none 0 0] 34))) (by omega)
 have HX:Hid (_∧_∧_∧_):=⟨r1',t1',r2,t2⟩
 have vU:=H jJ
 clear r1 t1 r1' t1' r2 t2 xK uf jJ
 go_enter Tryz.func9,Tryz.ntmps9
 go_wp2_with fail
 generalize hW3:(((w.alloc (L #[I n,.slice a l.length cap] 24)).alloc (L #[I 0,.slice none 0 0] 34)).alloc (L #[I n,.slice none 0 0] 34)) = W3 at xW HX vU ⊢
 clear hW3
 refine (toOrderS_any _ l _ (zh (U HR) (U xW) yb)).mono ?_
 rintro e w1 ⟨v',rfl,Z,uk⟩
 have HO:=H Z
 have HB:=H uk
 obtain ⟨x1,x2,x3,x4⟩:=U HX
 have y1:=zc x1 uk (by rw [U vU]; omega)
 have y2:=zo x2 uk (by rw [U vU]; omega)
 have y3:=zc x3 uk (by rw [U vU]; omega)
 have y4:=zo x4 uk (by rw [U vU]; omega)
 have c0:w1.cell? (Q (w.heap.size + 1) 0) = some (I 0):=y1 0 _ rfl
 have c1:w1.cell? (Q (w.heap.size + 1) 1) = some (.slice none 0 0):=y1 1 _ rfl
 have c2:w1.cell? (Q (w.heap.size + 1 + 1) 0) = some (I n):=y3 0 _ rfl
 have c3:w1.cell? (Q (w.heap.size + 1 + 1) 1) = some (.slice none 0 0):=y3 1 _ rfl
 have f0:w1.frozen? (Q (w.heap.size + 1) 0) = false:=(y2 0 (by omega)).2
 have f1:w1.frozen? (Q (w.heap.size + 1) 1) = false:=(y2 1 (by omega)).2
 have f2:w1.frozen? (Q (w.heap.size + 1 + 1) 0) = false:=(y4 0 (by omega)).2
 have f3:w1.frozen? (Q (w.heap.size + 1 + 1) 1) = false:=(y4 1 (by omega)).2
 clear Z uk x1 x2 x3 x4 y1 y2 y3 y4
 obtain ⟨a',uB,rfl,px,vM⟩:=U HO
 clear vM
 go_wp2_with fail
 have xD:((Q (w.heap.size + 1) 0):Addr) ≠ (Q (w.heap.size + 1) 1):=fun e=>by simp at e
 have hnb:∀ i j,((Q (w.heap.size + 1 + 1) i):Addr) ≠ (Q (w.heap.size + 1) j):=fun i j e=>by have:=congrArg Addr.block e; simp at this
 have d1:(((w1.setCell (Q (w.heap.size + 1 + 1) 1) (.slice a' l.length uB)).setCell (Q (w.heap.size + 1) 0) (I n)).setCell (Q (w.heap.size + 1) 1) (.slice a' l.length uB)).cell? (Q (w.heap.size + 1) 1) = some (.slice a' l.length uB) :=
  yN _ _ _ ((yM _ _ _ _ xD).trans ((yM _ _ _ _ (hnb 1 1)).trans c1))
 have d0:(((w1.setCell (Q (w.heap.size + 1 + 1) 1) (.slice a' l.length uB)).setCell (Q (w.heap.size + 1) 0) (I n)).setCell (Q (w.heap.size + 1) 1) (.slice a' l.length uB)).cell? (Q (w.heap.size + 1) 0) = some (I n) :=
  (yM _ _ _ _ xD.symm).trans (yN _ _ _ ((yM _ _ _ _ (hnb 1 0)).trans c0))
 have jl:=H (ownR_base (ownR_set (b:=w.heap.size + 1) (ownR_set (b:=w.heap.size + 1) (ownR_set (b:=w.heap.size + 1 + 1) (U HO) (by rw [U vU]; omega) 1 (.slice a' l.length uB)) (by rw [U vU]; omega) 0 (I n)) (by rw [U vU]; omega) 1 (.slice a' l.length uB)) (B':=w.heap.size) (by rw [U vU]; omega))
 have uj:=H (((((U xW).trans ((U HB).mono (U xW).size)).setCell (p:=(Q (w.heap.size + 1 + 1) 1)) (by simp; omega) (.slice a' l.length uB)).setCell (p:=(Q (w.heap.size + 1) 0)) (by simp) (I n)).setCell (p:=(Q (w.heap.size + 1) 1)) (by simp) (.slice a' l.length uB))
 generalize (((w1.setCell (Q (w.heap.size + 1 + 1) 1) (.slice a' l.length uB)).setCell (Q (w.heap.size + 1) 0) (I n)).setCell (Q (w.heap.size + 1) 1) (.slice a' l.length uB)) = W5 at *
 try simp only [Exit.inBlock,Exit.then]
 refine bodyPost_ret (by simp [results,Tryz.results9,go_sem,d0,d1]; try rfl) rfl ?_
 exact ⟨_,rfl,U jl,U uj⟩
theorem eqBook_same (n:Int) (va vb:Value) (l:List Od) (w:World) (ha:RdR Od.vs 6 w va l) (E:RdR Od.vs 6 w vb l) :
  Calls Tryz.prog 13 #[.agg #[I n,va],.agg #[I n,vb]] w fun e w'=>e = .returned (.bool true)∧yp w w':=by
 have HA:=H ha
 have HB:=H E
 obtain ⟨aa,ca,rfl,_,_⟩:=ha
 obtain ⟨ab,cb,rfl,_,_⟩:=E
 have H0:Hid (yp w ((w.alloc (L #[I n,.slice aa l.length ca] 34)).alloc (L #[I n,.slice ab l.length cb] 34))):=(fw _ _).alloc (by rw [zj]; omega) _
 go_enter Tryz.func13,Tryz.ntmps13
 go_wp2_with fail
 refine (eqOrderS_same _ _ l _ (zh (U HA) (U H0) yb) (zh (U HB) (U H0) yb)).mono ?_
 rintro e w1 ⟨rfl,uk⟩
 have ue:=H (fC (U H0) uk)
 clear uk
 go_wp2_with fail
 go_ret
 exact ⟨rfl,U ue⟩
theorem toOrderS_nil (a:Option Addr) (cap:Nat) (w:World) :
  Calls Tryz.prog 29 #[.slice a 0 cap] w fun e w'=>∃ ad O,e = .returned (.slice (some ad) 0 O)∧yp w w':=by
 obtain ⟨i0,hi,uH,uI,uW⟩:=info_parts Tryz.infoOrder
 go_enter Tryz.func29,Tryz.ntmps29
 go_wp2_with (at_make; go_must (refine wpList_make_full _ rfl _ _ 32 rfl w.heap.size 78 i0 _ 6 Tryz.underlying32 hi uH uI _ _ _ _ 0 rfl rfl rfl rfl (by rw [uW]; omega) (by unfold maxLen; omega) yb ?_); intro w1 xS ju)
 have HB:=H ((Below.refl w.heap.size w).grown ju yb (fun k hk=>by cases hk))
 clear xS ju
 refine wp_loop_rounds 1 ?_
 rw [rounds_succ]
 go_wp2_with fail
 go_ret
 exact ⟨_,_,rfl,U HB⟩
theorem toBook_nil (n:Int) (a:Option Addr) (cap:Nat) (w:World) :
  Calls Tryz.prog 9 #[.agg #[I n,.slice a 0 cap]] w fun e w'=>∃ ad O,e = .returned (.agg #[I n,.slice (some ad) 0 O])∧yp w w':=by
 have xK:=zj w (L #[I n,.slice a 0 cap] 24)
 have uf:((w.alloc (L #[I n,.slice a 0 cap] 24)).alloc (L #[I 0,.slice none 0 0] 34)).heap.size = w.heap.size + 1 + 1:=by rw [zj,xK]
 have r1:=zn (w.alloc (L #[I n,.slice a 0 cap] 24)) [I 0,.slice none 0 0] 34
 have r2:=zn ((w.alloc (L #[I n,.slice a 0 cap] 24)).alloc (L #[I 0,.slice none 0 0] 34)) [I n,.slice none 0 0] 34
 have t1:=bR (n:=2) (heap_alloc_new (w.alloc (L #[I n,.slice a 0 cap] 24)) (L #[I 0,.slice none 0 0] 34)) (by simp)
 have t2:=bR (n:=2) (heap_alloc_new ((w.alloc (L #[I n,.slice a 0 cap] 24)).alloc (L #[I 0,.slice none 0 0] 34)) (L #[I n,.slice none 0 0] 34)) (by simp)
 rw [xK] at r1 t1
 rw [uf] at r2 t2
 have xW:Hid (yp w (((w.alloc (L #[I n,.slice a 0 cap] 24)).alloc (L #[I 0,.slice none 0 0] 34)).alloc (L #[I n,.slice none 0 0] 34))) :=
  ((fw _ _).alloc (by rw [xK]; omega) _).alloc (by rw [uf]; omega) _
 have jJ:(((w.alloc (L #[I n,.slice a 0 cap] 24)).alloc (L #[I 0,.slice none 0 0] 34)).alloc (L #[I n,.slice none 0 0] 34)).heap.size = w.heap.size + 1 + 1 + 1:=by rw [zj,uf]
 have r1':=zc r1 (C:=w.heap.size + 1 + 1) (((Below.refl _ _).alloc (by rw [uf]; omega) (L #[I n,.slice none 0 0] 34))) (by omega)
 have t1':=zo t1 (C:=w.heap.size + 1 + 1) (((Below.refl _ _).alloc (by rw [uf]; omega) (L #[I n,.slice none 0 0] 34))) (by omega)
 have HX:Hid (_∧_∧_∧_):=⟨r1',t1',r2,t2⟩
 have vU:=H jJ
 clear r1 t1 r1' t1' r2 t2 xK uf jJ
 go_enter Tryz.func9,Tryz.ntmps9
 go_wp2_with fail
 generalize hW3:(((w.alloc (L #[I n,.slice a 0 cap] 24)).alloc (L #[I 0,.slice none 0 0] 34)).alloc (L #[I n,.slice none 0 0] 34)) = W3 at xW HX vU ⊢
 clear hW3
 refine (toOrderS_nil a cap _).mono ?_
 rintro e w1 ⟨ad',uB,rfl,uk⟩
 have HB:=H uk
 obtain ⟨x1,x2,x3,x4⟩:=U HX
 have y1:=zc x1 uk (by rw [U vU]; omega)
 have y2:=zo x2 uk (by rw [U vU]; omega)
 have y3:=zc x3 uk (by rw [U vU]; omega)
 have y4:=zo x4 uk (by rw [U vU]; omega)
 have c0:w1.cell? (Q (w.heap.size + 1) 0) = some (I 0):=y1 0 _ rfl
 have c1:w1.cell? (Q (w.heap.size + 1) 1) = some (.slice none 0 0):=y1 1 _ rfl
 have c2:w1.cell? (Q (w.heap.size + 1 + 1) 0) = some (I n):=y3 0 _ rfl
 have c3:w1.cell? (Q (w.heap.size + 1 + 1) 1) = some (.slice none 0 0):=y3 1 _ rfl
 have f0:w1.frozen? (Q (w.heap.size + 1) 0) = false:=(y2 0 (by omega)).2
 have f1:w1.frozen? (Q (w.heap.size + 1) 1) = false:=(y2 1 (by omega)).2
 have f2:w1.frozen? (Q (w.heap.size + 1 + 1) 0) = false:=(y4 0 (by omega)).2
 have f3:w1.frozen? (Q (w.heap.size + 1 + 1) 1) = false:=(y4 1 (by omega)).2
 clear uk x1 x2 x3 x4 y1 y2 y3 y4
 go_wp2_with fail
 have xD:((Q (w.heap.size + 1) 0):Addr) ≠ (Q (w.heap.size + 1) 1):=fun e=>by simp at e
 have hnb:∀ i j,((Q (w.heap.size + 1 + 1) i):Addr) ≠ (Q (w.heap.size + 1) j):=fun i j e=>by have:=congrArg Addr.block e; simp at this
 have d1:(((w1.setCell (Q (w.heap.size + 1 + 1) 1) (.slice (some ad') 0 uB)).setCell (Q (w.heap.size + 1) 0) (I n)).setCell (Q (w.heap.size + 1) 1) (.slice (some ad') 0 uB)).cell? (Q (w.heap.size + 1) 1) = some (.slice (some ad') 0 uB) :=
  yN _ _ _ ((yM _ _ _ _ xD).trans ((yM _ _ _ _ (hnb 1 1)).trans c1))
 have d0:(((w1.setCell (Q (w.heap.size + 1 + 1) 1) (.slice (some ad') 0 uB)).setCell (Q (w.heap.size + 1) 0) (I n)).setCell (Q (w.heap.size + 1) 1) (.slice (some ad') 0 uB)).cell? (Q (w.heap.size + 1) 0) = some (I n) :=
  (yM _ _ _ _ xD.symm).trans (yN _ _ _ ((yM _ _ _ _ (hnb 1 0)).trans c0))
 have uj:=H (((((U xW).trans ((U HB).mono (U xW).size)).setCell (p:=(Q (w.heap.size + 1 + 1) 1)) (by simp; omega) (.slice (some ad') 0 uB)).setCell (p:=(Q (w.heap.size + 1) 0)) (by simp) (I n)).setCell (p:=(Q (w.heap.size + 1) 1)) (by simp) (.slice (some ad') 0 uB))
 generalize (((w1.setCell (Q (w.heap.size + 1 + 1) 1) (.slice (some ad') 0 uB)).setCell (Q (w.heap.size + 1) 0) (I n)).setCell (Q (w.heap.size + 1) 1) (.slice (some ad') 0 uB)) = W5 at *
 try simp only [Exit.inBlock,Exit.then]
 refine bodyPost_ret (by simp [results,Tryz.results9,go_sem,d0,d1]; try rfl) rfl ?_
 exact ⟨ad',uB,rfl,U uj⟩
theorem fd (n:Int) (v:Value) (l:List Od) (w:World) (hr:RdR Od.vs 6 w v l) :
  Calls Tryz.prog 9 #[.agg #[I n,v]] w fun e w'=>∃ ad O,e = .returned (.agg #[I n,.slice (some ad) l.length O])∧OwnR Od.vs 6 w.heap.size w' (.slice (some ad) l.length O) l∧yp w w':=by
 by_cases hl:l = []
 ·subst hl
  obtain ⟨a,cap,rfl,_,_⟩:=hr
  refine (toBook_nil n a cap w).mono ?_
  rintro e w' ⟨ad,O,rfl,E⟩
  exact ⟨ad,O,rfl,⟨some ad,O,rfl,by simp,fun h=>absurd rfl h⟩,E⟩
 ·refine (toBook_any n v l w hr).mono ?_
  rintro e w' ⟨v',rfl,Z,E⟩
  have HO:=Z
  obtain ⟨a,cap,rfl,_,h⟩:=Z
  obtain ⟨g,rfl,_⟩:=h hl
  exact ⟨_,_,rfl,HO,E⟩
end Go.Proofs.YtnphbkgfjanmgaaGreatDoor
namespace Go.Proofs.YtnphbkgfjanmgaaGreatDoor
open Go.RowKit Go.ChangeShapes Go.WideShapes Go.Deep
set_option linter.unusedVariables false

structure Od.ok (c:Od):Prop where
 id:(Lit.int .i64 c.id).wf = true
 side:(Lit.int .i64 c.side).wf = true
 ticks:(Lit.int .i64 c.ticks).wf = true
 left:(Lit.int .i64 c.left).wf = true
 life:(Lit.int .i64 c.life).wf = true
 tag:c.tag.size ≤ maxLen
section
variable {yd:Type} {enc:TypeId × Value→yd} {w:World} {base:Nat} {spare:Nat→Bool} {held:Bool}

theorem list6 {A:List Value} (h:A.length = 6):∃ v0 v1 v2 v3 v4 v5,A = [v0,v1,v2,v3,v4,v5] :=
 match A,h with
 | [v0,v1,v2,v3,v4,v5],_=>⟨v0,v1,v2,v3,v4,v5,rfl⟩
theorem od_opened {fuel:Nat} {A:List Value} {x:DataW yd × List MemPlace} (h:DataW.trod enc Tryz.prog w base spare held fuel 91 A = some x):∃ c:Od,A = c.vs∧c.ok:=by
 obtain ⟨xs,n,_,_,xA,hxl,hf⟩:=DataW.trod_struct Tryz.underlying91 h
 have hl6:A.length = 6:=xA.trans (by kernel_rfl)
 have k3:Tryz.prog.cellsOf 3 = 1:=by kernel_rfl
 have k9:Tryz.prog.cellsOf 9 = 1:=by kernel_rfl
 have hx:∀ i,i < 6→∃ y,xs[i]? = some y:=fun i hi=>⟨_,yI (by rw [hxl]; exact hi)⟩
 obtain ⟨y0,e0⟩:=hx 0 (by omega)
 obtain ⟨y1,e1⟩:=hx 1 (by omega)
 obtain ⟨y2,e2⟩:=hx 2 (by omega)
 obtain ⟨y3,e3⟩:=hx 3 (by omega)
 obtain ⟨y4,e4⟩:=hx 4 (by omega)
 obtain ⟨y5,e5⟩:=hx 5 (by omega)
 have f0:DataW.trod enc Tryz.prog w base spare held n 3 ((A.drop 0).take (Tryz.prog.cellsOf 3)) = some y0:=(hf 0 _ rfl).trans e0
 have f1:DataW.trod enc Tryz.prog w base spare held n 3 ((A.drop 1).take (Tryz.prog.cellsOf 3)) = some y1:=(hf 1 _ rfl).trans e1
 have f2:DataW.trod enc Tryz.prog w base spare held n 3 ((A.drop 2).take (Tryz.prog.cellsOf 3)) = some y2:=(hf 2 _ rfl).trans e2
 have f3:DataW.trod enc Tryz.prog w base spare held n 3 ((A.drop 3).take (Tryz.prog.cellsOf 3)) = some y3:=(hf 3 _ rfl).trans e3
 have f4:DataW.trod enc Tryz.prog w base spare held n 3 ((A.drop 4).take (Tryz.prog.cellsOf 3)) = some y4:=(hf 4 _ rfl).trans e4
 have f5:DataW.trod enc Tryz.prog w base spare held n 9 ((A.drop 5).take (Tryz.prog.cellsOf 9)) = some y5:=(hf 5 _ rfl).trans e5
 clear hf hx e0 e1 e2 e3 e4 e5 h xA
 obtain ⟨v0,v1,v2,v3,v4,v5,rfl⟩:=list6 hl6
 clear hl6
 simp only [k3,k9,List.drop_zero,yV,yU,List.take_zero] at f0 f1 f2 f3 f4 f5
 obtain ⟨n0,c0,_,b0⟩:=DataW.trod_int Tryz.underlying3 f0
 obtain ⟨n1,c1,_,b1⟩:=DataW.trod_int Tryz.underlying3 f1
 obtain ⟨n2,c2,_,b2⟩:=DataW.trod_int Tryz.underlying3 f2
 obtain ⟨n3,c3,_,b3⟩:=DataW.trod_int Tryz.underlying3 f3
 obtain ⟨n4,c4,_,b4⟩:=DataW.trod_int Tryz.underlying3 f4
 obtain ⟨n5,c5,_,b5⟩:=DataW.trod_string Tryz.underlying9 f5
 simp only [List.cons.injEq,and_true] at c0 c1 c2 c3 c4 c5
 subst c0 c1 c2 c3 c4 c5
 exact ⟨⟨n0,n1,n2,n3,n4,n5⟩,rfl,⟨b0,b1,b2,b3,b4,b5⟩⟩
def IsOrders (w:World) (a:Option Addr) (len cap:Nat):Prop :=
 len ≤ maxLen∧(len ≤ 1073741824→∃ l:List Od,l.length = len∧RdR Od.vs 6 w (.slice a len cap) l∧∀ c ∈ l,c.ok)
theorem orders_opened {fuel:Nat} {A:List Value} {x:DataW yd × List MemPlace} (h:DataW.trod enc Tryz.prog w base spare held fuel 22 A = some x):∃ a len cap,A = [.slice a len cap]∧IsOrders w a len cap:=by
 rcases open_slice Tryz.underlying22 h with ⟨kp,_⟩ | ⟨ad,len,cap,m,n,xh,Pl,kp,_,hl,hm,hmm,_,hel⟩
 ·exact ⟨none,0,0,kp,Nat.zero_le _,fun _=>⟨[],rfl,⟨none,0,rfl,by simp,fun h=>absurd rfl h⟩,by simp⟩⟩
 ·refine ⟨some ad,len,cap,kp,?_⟩
  have k37:Tryz.prog.cellsOf 91 = 6:=by kernel_rfl
  rw [k37] at hel
  have hlm:len ≤ m:=by rw [hmm]; split <;> omega
  refine ⟨by omega,fun E=>?_⟩
  have hc:∀ i,i < len→∃ c:Od,c.ok∧∀ j v,c.vs[j]? = some v→w.cell? (ad.add (i * 6 + j)) = some v:=by
   intro i hi
   obtain ⟨cs',N,Y⟩:=hel i (by omega)
   obtain ⟨c,rfl,vu⟩:=od_opened Y
   obtain ⟨_,_,xt⟩:=World.cells?_some N
   refine ⟨c,vu,fun j v hv=>?_⟩
   have:=xt j (yH.1 hv).1
   rw [add_add] at this
   rw [this,hv]
  have xz:0 < len→∃ b off,ad = (Q b off)∧b < w.heap.size:=by
   intro hp
   obtain ⟨c,_,h0⟩:=hc 0 hp
   have h0:=h0 0 _ rfl
   obtain ⟨b,off,spot⟩:=ad
   have hspot:spot = none:=by simpa [Addr.add] using World.cell?_spot h0
   subst hspot
   exact ⟨b,off,rfl,by have:=yL w _ h0; simpa [Addr.add] using this⟩
  haveI:Inhabited Od:=⟨zOd⟩
  obtain ⟨cl,hF⟩:=choose_lt hc
  have hget:∀ i c,((List.range len).map cl)[i]? = some c→i < len∧c = cl i:=by
   intro i c hi
   have xJ:i < len:=by simpa using (yH.1 hi).1
   refine ⟨xJ,?_⟩
   rw [List.getElem?_map,List.getElem?_range xJ] at hi
   simpa using hi.symm
  refine ⟨(List.range len).map cl,by simp,⟨some ad,cap,by simp,by simpa using E,fun xD=>?_⟩,fun c hcm=>?_⟩
  ·have hp:0 < len:=by
    rcases Nat.eq_zero_or_pos len with h0 | h0
    ·subst h0; simp at xD
    ·exact h0
   obtain ⟨b,off,rfl,xJ⟩:=xz hp
   refine ⟨b,off,rfl,xJ,fun i c hi j v hv=>?_⟩
   obtain ⟨qa,rfl⟩:=hget i c hi
   have:=(hF i qa).2 j v hv
   rw [Addr.add_mid] at this
   rw [Nat.add_assoc]; exact this
  ·obtain ⟨i,hi⟩:=List.mem_iff_getElem?.1 hcm
   obtain ⟨qa,rfl⟩:=hget i c hi
   exact (hF i qa).1
theorem list_two {A:List Value} (h:A.length = 2):∃ v0 v1,A = [v0,v1]:=match A,h with
 | [v0,v1],_=>⟨v0,v1,rfl⟩
theorem book_opened {fuel:Nat} {A:List Value} {x:DataW yd × List MemPlace} (h:DataW.trod enc Tryz.prog w base spare held fuel 24 A = some x):∃ n a len cap,A = [I n,.slice a len cap]∧(Lit.int .i64 n).wf = true∧IsOrders w a len cap:=by
 obtain ⟨xs,k,_,_,xA,hxl,hf⟩:=DataW.trod_struct Tryz.underlying24 h
 have hl2:A.length = 2:=xA.trans (by kernel_rfl)
 have k3:Tryz.prog.cellsOf 3 = 1:=by kernel_rfl
 have k9:Tryz.prog.cellsOf 22 = 1:=by kernel_rfl
 have hx:∀ i,i < 2→∃ y,xs[i]? = some y:=fun i hi=>⟨_,yI (by rw [hxl]; exact hi)⟩
 obtain ⟨y0,e0⟩:=hx 0 (by omega)
 obtain ⟨y1,e1⟩:=hx 1 (by omega)
 have f0:DataW.trod enc Tryz.prog w base spare held k 3 ((A.drop 0).take (Tryz.prog.cellsOf 3)) = some y0:=(hf 0 _ rfl).trans e0
 have f1:DataW.trod enc Tryz.prog w base spare held k 22 ((A.drop 1).take (Tryz.prog.cellsOf 22)) = some y1:=(hf 1 _ rfl).trans e1
 obtain ⟨v0,v1,rfl⟩:=list_two hl2
 simp only [k3,k9,List.drop_zero,yV,yU,List.take_zero] at f0 f1
 obtain ⟨n,c0,_,b0⟩:=DataW.trod_int Tryz.underlying3 f0
 obtain ⟨a,len,cap,c1,Z⟩:=orders_opened f1
 simp only [List.cons.injEq,and_true] at c0 c1
 subst c0 c1
 exact ⟨n,a,len,cap,rfl,b0,Z⟩
end
end Go.Proofs.YtnphbkgfjanmgaaGreatDoor
