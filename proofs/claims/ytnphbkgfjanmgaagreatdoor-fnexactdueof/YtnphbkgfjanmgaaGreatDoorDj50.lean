/-
  The exact law of DueOf, walked: it returns true, and nothing that was there is turned.
-/
import Derived.Test.YtnphbkgfjanmgaaGreatDoorDj48
import Derived.Test.YtnphbkgfjanmgaaGreatDoorDj49
set_option linter.unusedVariables false
set_option maxHeartbeats 6400000
set_option maxRecDepth 100000
namespace Go.Proofs.YtnphbkgfjanmgaaGreatDoor
open Go.RowKit
theorem eqDue_same (d:Du) (w:World):Calls Tryz.prog 12 #[duV d,duV d] w fun e w'=>e = yn (.bool true)∧yp w w':=by
 obtain ⟨dk,di,dt,dq,dp⟩:=d
 unfold duV
 simp only
 go_enter Tryz.func12,Tryz.ntmps12
 go_wp2_with fail
 go_ret
 exact ⟨rfl,by go_grown⟩
theorem lawDue (n:Int) (a:Option Addr) (len cap:Nat) (a1:Option Addr) (am oR:Nat) (w:World) (h:(Lit.int .i64 n).wf = true∧IsOrders w a len cap) (N:IsEvents w a1 am oR) (hE:ErrT w) :
  Calls Tryz.prog 3 #[.agg #[I n,.slice a len cap],.slice a1 am oR] w fun r w'=>r = yn (.bool true)∧yp w w':=by
 have HIS:Hid (am ≤ 1073741824→∃ es:List Ev,es.length = am∧RdR Ev.vs 14 w (.slice a1 am oR) es∧∀ c ∈ es,c.ok):=N.2
 have HFR:=H (fun W x0 hx0 hx1 hl=>szEventS_far a1 am oR W x0 hx0 hx1 hl N.1)
 have HE:=H (fun W E=>cy (w':=W) hE E yb)
 have HBR:Hid (∀ l es,∃ dd du dc,duD n l es = dd∧duU n l es = du∧duC n l es = dc):=fun l es=>⟨_,_,_,rfl,rfl,rfl⟩
 have HS:=H (zq w [I n,.slice a len cap] 24)
 have hS:w.heap.size < (w.alloc (L #[I n,.slice a len cap] 24)).heap.size:=by simp
 have HB:Hid (yp w (w.alloc (L #[I n,.slice a len cap] 24))):=fw _ _
 have qc:Hid (∀ W,yp w W→Calls Tryz.prog 6 #[.agg #[I n,.slice a len cap],I 1048576] W fun e w'=>∃ y:Int,e = yn (I y)∧-1 ≤ y∧y ≤ 1048576∧(0 ≤ y→len ≤ 1048576)∧yp W w'):=fun W E=>by
  by_cases hl:len ≤ 1048576
  ·obtain ⟨l,rfl,hr,vu⟩:=h.2.2 (by omega)
   refine (szBook_any n _ l W (zh hr E yb) hl (fun c hc=>(vu c hc).tag)).mono ?_
   rintro e w2 ⟨y,rfl,N,Y,h3⟩
   exact ⟨y,rfl,N,Y,fun _=>hl,h3⟩
  ·refine (szBook_long n a len cap W (by omega) h.2.1).mono ?_
   rintro e w2 ⟨rfl,h3⟩
   exact ⟨-1,rfl,by omega,by omega,fun h=>by omega,h3⟩
 have HOS:Hid (len ≤ 1048576→∃ l:List Od,l.length = len∧RdR Od.vs 6 w (.slice a len cap) l∧∀ c ∈ l,c.ok):=fun hl=>h.2.2 (by omega)
 clear h N hE
 go_enter Tryz.func3,Tryz.ntmps3
 refine fD fun zb HK=>?_
 go_wp2_with fail
 refine U HK _ _ ?_
 clear HK
 generalize (w.alloc (L #[I n,.slice a len cap] 24)) = W1 at HS hS HB ⊢
 have xS0:=K (U HS) 0 rfl
 have xS1:=K (U HS) 1 rfl
 go_wp2_with fail
 refine (U qc W1 (U HB)).mono ?_
 clear qc xS0 xS1
 rintro e w2 ⟨y,rfl,hy0,hy1,hyl,E⟩
 have HB:=H (fC (U HB) E)
 have HS:=H (zf (U HS) E hS)
 have hS:w.heap.size < w2.heap.size:=yK hS E.size
 clear E
 by_cases hy:y < 0
 ·clear hyl
  go_wp2_with fail
  go_ret
  exact ⟨rfl,U HB⟩
 obtain ⟨l,hll,hrl,vu⟩:=U HOS (hyl (by omega))
 subst hll
 have HR:=H hrl
 have HG:Hid (∀ c ∈ l,c.tag.size ≤ maxLen):=fun c hc=>(vu c hc).tag
 have hl:=hyl (by omega)
 clear hyl hrl vu HOS
 by_cases hey:(am:Int) ≤ y
 case neg =>
  go_wp2_with fail
  refine (U HFR w2 y (by omega) (by omega) (by omega)).mono ?_
  rintro e w3 ⟨rfl,oM⟩
  rw [oM]
  go_wp2_with fail
  go_ret
  exact ⟨rfl,U HB⟩
 obtain ⟨es,rfl,jg,hek⟩:=U HIS (by omega)
 have jj:=H jg
 have HEF:Hid (∀ c ∈ es,c.fit):=fun c hc=>(hek c hc).fit
 clear jg hek HIS HFR
 go_wp2_with fail
 refine (szEventS_at _ es w2 (zh (U jj) (U HB) yb) y (by omega) (by omega) hey (fun c hc=>(U HEF c hc).g)).mono ?_
 rintro e w3 ⟨y2,rfl,hy2,E⟩
 have HB:=H (fC (U HB) E)
 have HS:=H (zf (U HS) E hS)
 have hS:w.heap.size < w3.heap.size:=yK hS E.size
 clear E
 clear hey
 by_cases hyb:y2 < 0
 ·go_wp2_with fail
  go_ret
  exact ⟨rfl,U HB⟩
 obtain ⟨dd,du,dc,h0,N,Y⟩:=U HBR l es
 have HSP:=H (fun W ad O x N Y=>specDueOf_any n (.slice (some ad) l.length O) l x es W N (.inr ⟨_,_,_,rfl⟩) (U HG) Y (U HEF))
 have HIM:=H (fun W ad O x N Y h3=>implDueOf_any n (.slice (some ad) l.length O) l x es W N (.inr ⟨_,_,_,rfl⟩) (U HG) Y (U HEF) h3)
 have HED:=H (fun W=>eqDue_same dd W)
 rw [h0,N,Y] at HSP HIM
 obtain ⟨dk,di,dt,dq,dp⟩:=dd
 unfold duV at HSP HIM HED
 simp only at HSP HIM HED
 clear h0 N Y HBR hy0 hy1 hy2
 have xS0:=K (U HS) 0 rfl
 have xS1:=K (U HS) 1 rfl
 go_wp2_with fail
 refine (fd n _ l w3 (zh (U HR) (U HB) yb)).mono ?_
 rintro e w4 ⟨ad,cp9,rfl,Z,E⟩
 have qW:=H (dE Z)
 clear Z xS0 xS1
 have qW:=H (U qW)
 have HB:=H (fC (U HB) E)
 have HS:=H (zf (U HS) E hS)
 have hS:w.heap.size < w4.heap.size:=yK hS E.size
 clear E
 go_wp2_with fail
 refine (eT _ es w4 (zh (U jj) (U HB) yb)).mono ?_
 rintro e w5 ⟨xx,rfl,Z,E⟩
 have jA:=H (And.intro (zh (U qW) E yb) (dE Z))
 clear Z qW
 have HB:=H (fC (U HB) E)
 have HS:=H (zf (U HS) E hS)
 have hS:w.heap.size < w5.heap.size:=yK hS E.size
 clear E
 go_wp2_with fail
 refine (U HSP w5 ad cp9 xx (U jA).1 (U jA).2).mono ?_
 rintro e w6 ⟨rfl,E⟩
 clear jA HSP
 have HB:=H (fC (U HB) E)
 have HS:=H (zf (U HS) E hS)
 have hS:w.heap.size < w6.heap.size:=yK hS E.size
 clear E
 obtain ⟨E,HP⟩:=fE w6 [I dk,I di,I dt,I dq,I dp] 29
 have hP:w6.heap.size < (w6.alloc (L #[I dk,I di,I dt,I dq,I dp] 29)).heap.size:=by simp
 have HEP:=H E
 clear E
 have xS0:=(K (zf (U HS) (U HEP) hS) 0 rfl)
 have xS1:=(K (zf (U HS) (U HEP) hS) 1 rfl)
 go_wp2_with fail
 generalize (w6.alloc (L #[I dk,I di,I dt,I dq,I dp] 29)) = W7 at HP hP HEP xS0 xS1 ⊢
 have E:=U HEP
 clear HEP
 have HB:=H (fC (U HB) E)
 have HS:=H (zf (U HS) E hS)
 have hS:w.heap.size < W7.heap.size:=yK hS E.size
 clear E
 refine (fd n _ l W7 (zh (U HR) (U HB) yb)).mono ?_
 rintro e w8 ⟨a5,cp5,rfl,Z,E⟩
 have pG:=H (dE Z)
 clear Z xS0 xS1
 have HB:=H (fC (U HB) E)
 have HS:=H (zf (U HS) E hS)
 have hS:w.heap.size < w8.heap.size:=yK hS E.size
 have HP:=H (zf (U HP) E hP)
 have hP:w6.heap.size < w8.heap.size:=yK hP E.size
 clear E
 obtain ⟨E,HZ⟩:=fE w8 [I n,.slice (some a5) l.length cp5] 34
 have hZ:w8.heap.size < (w8.alloc (L #[I n,.slice (some a5) l.length cp5] 34)).heap.size:=by simp
 have HEZ:=H E
 clear E
 go_wp2_with fail
 generalize (w8.alloc (L #[I n,.slice (some a5) l.length cp5] 34)) = W9 at HZ hZ HEZ ⊢
 have pG:=H (zh (U pG) (U HEZ) yb)
 have E:=U HEZ
 clear HEZ
 have HB:=H (fC (U HB) E)
 have HS:=H (zf (U HS) E hS)
 have hS:w.heap.size < W9.heap.size:=yK hS E.size
 have HP:=H (zf (U HP) E hP)
 have hP:w6.heap.size < W9.heap.size:=yK hP E.size
 clear E
 refine (eT _ es W9 (zh (U jj) (U HB) yb)).mono ?_
 rintro e w10 ⟨q1,rfl,Z,E⟩
 have HO8:=H (dE Z)
 have pG:=H (zh (U pG) E yb)
 clear Z
 have HB:=H (fC (U HB) E)
 have HS:=H (zf (U HS) E hS)
 have hS:w.heap.size < w10.heap.size:=yK hS E.size
 have HP:=H (zf (U HP) E hP)
 have hP:w6.heap.size < w10.heap.size:=yK hP E.size
 have HZ:=H (zf (U HZ) E hZ)
 have hZ:w8.heap.size < w10.heap.size:=yK hZ E.size
 clear E
 have xZ0:=K (U HZ) 0 rfl
 have xZ1:=K (U HZ) 1 rfl
 go_wp2_with fail
 refine (U HIM w10 a5 cp5 q1 (U pG) (U HO8) (U HE w10 (U HB))).mono ?_
 rintro e w11 ⟨rfl,E⟩
 have pG:=H (zh (U pG) E yb)
 have HO8:=H (zh (U HO8) E yb)
 clear xZ0 xZ1 HIM
 have HB:=H (fC (U HB) E)
 have HS:=H (zf (U HS) E hS)
 have hS:w.heap.size < w11.heap.size:=yK hS E.size
 have HP:=H (zf (U HP) E hP)
 have hP:w6.heap.size < w11.heap.size:=yK hP E.size
 have HZ:=H (zf (U HZ) E hZ)
 have hZ:w8.heap.size < w11.heap.size:=yK hZ E.size
 clear E
 obtain ⟨E,HQ⟩:=fE w11 [I dk,I di,I dt,I dq,I dp] 29
 have hQ:w11.heap.size < (w11.alloc (L #[I dk,I di,I dt,I dq,I dp] 29)).heap.size:=by simp
 have jy:=H E
 clear E
 have pG:=H (zh (U pG) (U jy) yb)
 have HO8:=H (zh (U HO8) (U jy) yb)
 have xP0:=(K (zf (U HP) (U jy) hP) 0 rfl)
 have xP1:=(K (zf (U HP) (U jy) hP) 1 rfl)
 have xP2:=(K (zf (U HP) (U jy) hP) 2 rfl)
 have xP3:=(K (zf (U HP) (U jy) hP) 3 rfl)
 have xP4:=(K (zf (U HP) (U jy) hP) 4 rfl)
 have xQ0:=K (U HQ) 0 rfl
 have xQ1:=K (U HQ) 1 rfl
 have xQ2:=K (U HQ) 2 rfl
 have xQ3:=K (U HQ) 3 rfl
 have xQ4:=K (U HQ) 4 rfl
 go_wp2_with fail
 generalize (w11.alloc (L #[I dk,I di,I dt,I dq,I dp] 29)) = W12 at HQ hQ jy pG HO8 xP0 xQ0 xP1 xQ1 xP2 xQ2 xP3 xQ3 xP4 xQ4 ⊢
 have E:=U jy
 clear jy
 have HB:=H (fC (U HB) E)
 have HS:=H (zf (U HS) E hS)
 have hS:w.heap.size < W12.heap.size:=yK hS E.size
 have HP:=H (zf (U HP) E hP)
 have hP:w6.heap.size < W12.heap.size:=yK hP E.size
 have HZ:=H (zf (U HZ) E hZ)
 have hZ:w8.heap.size < W12.heap.size:=yK hZ E.size
 clear E
 refine (U HED W12).mono ?_
 rintro e w13 ⟨rfl,E⟩
 have pG:=H (zh (U pG) E yb)
 have HO8:=H (zh (U HO8) E yb)
 clear HED xP0 xQ0 xP1 xQ1 xP2 xQ2 xP3 xQ3 xP4 xQ4
 have HB:=H (fC (U HB) E)
 have HS:=H (zf (U HS) E hS)
 have hS:w.heap.size < w13.heap.size:=yK hS E.size
 have HP:=H (zf (U HP) E hP)
 have hP:w6.heap.size < w13.heap.size:=yK hP E.size
 have HZ:=H (zf (U HZ) E hZ)
 have hZ:w8.heap.size < w13.heap.size:=yK hZ E.size
 have HQ:=H (zf (U HQ) E hQ)
 have hQ:w11.heap.size < w13.heap.size:=yK hQ E.size
 clear E
 have HR9:=H (zh (U HR) (U HB) yb)
 have MOC:Hid (∀ (W W2:World) (v:Value),yp W W2→(fun W v=>∃ v2,v = .agg #[I n,v2]∧RdR Od.vs 6 W v2 l) W v→(fun W v=>∃ v2,v = .agg #[I n,v2]∧RdR Od.vs 6 W v2 l) W2 v):=fun W W2 v E h=>by obtain ⟨v2,N,Y⟩:=h; exact ⟨v2,N,zh Y E yb⟩
 go_wp2_with fail
 refine zm (RG w13 (fun f=>{ tmps:=#[.agg #[I n,.slice a l.length cap],.slice a1 es.length oR,yq w 0,M,.bool false,I y2,yq w6 0,I du,I dc,yq w8 0,q1,yq w11 0,I du,I dc,.agg #[I n,.slice a l.length cap],I 1048576,I y,I y,.bool (decide (y < 0)),.slice a1 es.length oR,I y,I y2,I y2,.bool (decide (y2 < 0)),.tuple #[.agg #[I dk,I di,I dt,I dq,I dp],I du,I dc],.agg #[I n,.slice a l.length cap],.agg #[I n,.slice (some ad) l.length cp9],.slice a1 es.length oR,xx,.tuple #[.agg #[I dk,I di,I dt,I dq,I dp],I du,I dc],.agg #[I dk,I di,I dt,I dq,I dp],I du,I dc,.agg #[I n,.slice a l.length cap],.agg #[I n,.slice (some a5) l.length cp5],.slice a1 es.length oR,q1,.tuple #[.agg #[I dk,I di,I dt,I dq,I dp],I du,I dc],.agg #[I n,.slice (some a5) l.length cp5],q1,.tuple #[.agg #[I dk,I di,I dt,I dq,I dp],I du,I dc],.agg #[I dk,I di,I dt,I dq,I dp],I du,I dc,.agg #[I dk,I di,I dt,I dq,I dp],.agg #[I dk,I di,I dt,I dq,I dp],.bool true,.bool false,.bool false,I du,I du,.bool false,.bool false,.bool false,I dc,I dc,.bool false,.bool false,f 0,f 1,f 2,f 3,f 4,M,M,M,M,M],defers:=[] }) 99 (DB [some (.agg #[I n,.slice (some a5) l.length cp5]),some (.agg #[I n,.slice a l.length cap]),none,some (.bool true),some (.bool false)] (fun W v=>∃ v2,v = .agg #[I n,v2]∧RdR Od.vs 6 W v2 l) 2 (fun _ _=>True) 99)) (by kernel_rfl) ?_ ?_ ?_
 ·exact ⟨fun _=>M,rfl,⟨rfl,rfl,rfl,Nat.le_refl _,fun _ _=>rfl⟩,fun j V=>by rw [yJ] at V; split at V <;> simp at V⟩
 rotate_left
 ·rintro x cs hj i op ⟨f,rfl,xl,hD⟩ X hx Z xr D
  have xE:=H xl
  have HD:=H hD
  match i,Z with
  | 0,Z =>
   obtain rfl:=yc Z
   have z0:=K (zf (U HZ) xl hZ) 0 rfl
   have z1:=K (zf (U HZ) xl hZ) 1 rfl
   clear D hD xl X
   rw [if_pos (by rfl)];unfold Oper.wp;go_simp
   exact ⟨upd f 0 (.agg #[I n,.slice (some a5) l.length cp5]),by simp [upd],zg (U xE) (U HD) (by decide) (db_v rfl (by decide) (by decide))⟩
  | 1,Z =>
   obtain rfl:=yc Z
   have z0:=K (zf (U HS) xl hS) 0 rfl
   have z1:=K (zf (U HS) xl hS) 1 rfl
   clear D hD xl X
   rw [if_pos (by rfl)];unfold Oper.wp;go_simp
   exact ⟨upd f 1 (.agg #[I n,.slice a l.length cap]),by simp [upd],zg (U xE) (U HD) (by decide) (db_v rfl (by decide) (by decide))⟩
  | 2,Z =>
   obtain rfl:=yc Z
   have g1:=(hD 1 (yf D 1 rfl)).1 _ rfl
   have qC:=H (zh (U HR9) xl yb)
   clear D hD xl X
   rw [if_pos (by rfl)];unfold Oper.wp;go_simp
   refine (fd n _ l hj (U qC)).mono ?_
   rintro e w5 ⟨ad,cp9,rfl,ho4,xy⟩
   exact ⟨upd f 2 (.agg #[I n,.slice (some ad) l.length cp9]),by simp [upd,g1],rg_grow (db_mono (U MOC) (fun _ _ _ _ h=>h)) (U xE) (U HD) xy (by decide) (db_a rfl ⟨_,rfl,dE ho4⟩ (by decide))⟩
  | 3,Z =>
   obtain rfl:=yc Z
   have g0:=(hD 0 (yf D 0 rfl)).1 _ rfl
   obtain ⟨v9,g2,aJ⟩:=(hD 2 (yf D 2 rfl)).2.1 rfl
   have xu:=H (And.intro (zh (U pG) xl yb) aJ)
   clear aJ
   clear D hD xl X
   rw [if_pos (by rfl)];unfold Oper.wp;go_simp
   refine (eqBook_same n _ v9 l hj (U xu).1 (U xu).2).mono ?_
   rintro e w5 ⟨rfl,xy⟩
   exact ⟨upd f 3 (.bool true),by simp [upd,g0,g2],rg_grow (db_mono (U MOC) (fun _ _ _ _ h=>h)) (U xE) (U HD) xy (by decide) (db_v rfl (by decide) (by decide))⟩
  | 4,Z =>
   obtain rfl:=yc Z
   have g3:=(hD 3 (yf D 3 rfl)).1 _ rfl
   clear D hD xl X
   rw [if_pos (by rfl)];unfold Oper.wp;go_simp
   exact ⟨upd f 4 (.bool false),by simp [upd,g3],zg (U xE) (U HD) (by decide) (db_v rfl (by decide) (by decide))⟩
  | i + 5,Z=>simp at Z
 ·rintro x cs hj ⟨f,rfl,xl,hD⟩ hx xO
  have xq:=bT xO hx (by kernel_rfl)
  have e4:f 4 = .bool false:=(hD 4 (xq 4 (by simp))).1 _ rfl
  have BA:=H (fC (U HB) xl)
  have HO8:=H (zh (U HO8) xl yb)
  simp only [e4]
  generalize f 0 = s0,f 1 = s1,f 2 = s2,f 3 = s3
  clear hD xq e4 xO hx xl
  go_wp2_with fail
  refine (eT _ es hj (zh (U jj) (U BA) yb)).mono ?_
  rintro e wB ⟨q2,rfl,hoB,E⟩
  have BB:=H (fC (U BA) E)
  have HO8:=H (zh (U HO8) E yb)
  have HOB:=H (dE hoB)
  clear E hoB
  go_wp2_with fail
  refine (eqEventS_same q1 q2 es wB (U HO8) (U HOB)).mono ?_
  rintro e wC ⟨rfl,E⟩
  have BC:=H (fC (U BB) E)
  clear E
  go_wp2_with fail
  go_ret
  exact ⟨rfl,U BC⟩
end Go.Proofs.YtnphbkgfjanmgaaGreatDoor
