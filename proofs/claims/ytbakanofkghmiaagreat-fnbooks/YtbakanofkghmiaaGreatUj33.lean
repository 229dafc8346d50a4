/-
  What rests at the end, counted, by the program; and a count's fault: proved by walking the functions.
-/
import Derived.Test.YtbakanofkghmiaaGreatUj32
set_option linter.unusedVariables false
set_option maxHeartbeats 6400000
set_option maxRecDepth 100000
namespace Go.Proofs.YtbakanofkghmiaaGreat
open Go.RowKit
def cntO (t:Tot) (o:Od):Tot:={ t with li:=wrap64 (t.li + 1),le:=wrap64 (t.le + o.left) }
def wbT (t:Tot) (l:List Od):Tot:=l.foldl cntO t
theorem wb_step (t:Tot) (l:List Od) {k:Nat} {o:Od} (h:l[k]? = some o):wbT t (l.take (k + 1)) = cntO (wbT t (l.take k)) o:=by
 unfold wbT
 rw [List.take_add_one,h,List.foldl_append]; rfl
def cntF (n:Nat):Int:=if 4096 < n then 2 else if 200 < n then 7 else 0
theorem countFault_any (n:Nat) (hn:n ≤ 1073741824) (w:World):Calls Tryz.prog 31 #[H n] w fun r w'=>r = yl (H (cntF n))∧w' = w:=by
 have HF:=Y (cntF.eq_1 n)
 generalize cntF n = qt at HF ⊢
 by_cases G:4096 < n
 ·have qK:Hid (qt = 2):=(U HF).trans (if_pos G)
  have kn:(4096:Int) < n:=by omega
  clear HF
  go_enter Tryz.func31,Tryz.ntmps31
  go_wp2_with fail
  exact ⟨rfl,H qt,by rw [U qK]; simp [results,Tryz.results31,go_sem],rfl,rfl⟩
 ·have kn:¬ (4096:Int) < n:=by omega
  by_cases D:200 < n
  ·have qK:Hid (qt = 7):=(U HF).trans ((if_neg G).trans (if_pos D))
   have ke:(200:Int) < n:=by omega
   clear HF
   go_enter Tryz.func31,Tryz.ntmps31
   go_wp2_with fail
   exact ⟨rfl,H qt,by rw [U qK]; simp [results,Tryz.results31,go_sem],rfl,rfl⟩
  ·have qK:Hid (qt = 0):=(U HF).trans ((if_neg G).trans (if_neg D))
   have ke:¬ (200:Int) < n:=by omega
   clear HF
   go_enter Tryz.func31,Tryz.ntmps31
   go_wp2_with fail
   exact ⟨rfl,H qt,by rw [U qK]; simp [results,Tryz.results31,go_sem],rfl,rfl⟩
theorem keepB {w W:World} {S:Nat} {cs:List Value} (h:W.rangeAt S 0 cs∧W.there S 0 8∧W.there (S + 1 + 1) 0 8∧Below S w W∧S + 1 + 1 + 1 ≤ W.heap.size) (j:Nat) (K:j < cs.length) (u:Value):(W.setCell (J S j) u).rangeAt S 0 (cs.set j u)∧(W.setCell (J S j) u).there S 0 8∧(W.setCell (J S j) u).there (S + 1 + 1) 0 8∧Below S w (W.setCell (J S j) u)∧S + 1 + 1 + 1 ≤ (W.setCell (J S j) u).heap.size :=
 ⟨bZ h.1 K,zD h.2.1,zD h.2.2.1,h.2.2.2.1.setCell (p:=(J S j)) hb _,by simp only [World.setCell,Array.size_modify]; exact h.2.2.2.2⟩
theorem withBook_any (t:Tot) (next:Int) (v:Value) (l:List Od) (w:World) (hr:RdR Od.vs 6 w v l) :
  Calls Tryz.prog 33 #[.agg #[H t.gr,H t.ac,H t.rf,H t.tr,H t.vo,H t.no,H t.li,H t.le],.agg #[H next,v]] w fun r w'=>r = yl (.agg #[H (wbT t l).gr,H (wbT t l).ac,H (wbT t l).rf,H (wbT t l).tr,H (wbT t l).vo,H (wbT t l).no,H (wbT t l).li,H (wbT t l).le])∧ym w w':=by
 obtain ⟨a,A,rfl,xC,hc⟩:=hr
 have xo:∀ (k:Nat) (c:Od),l[k]? = some c→∃ b off,a = some (J b off)∧b < w.heap.size∧w.rangeAt b (off + k * 6) c.vs:=by
  intro k c hk
  obtain ⟨b,off,G,D,h3⟩:=hc (by intro h; rw [h] at hk; simp at hk)
  exact ⟨b,off,G,D,h3 k c hk⟩
 have HC:=Y xo
 clear xo hc
 have hsf:=sfl
 have xz:=zf w (N #[H t.gr,H t.ac,H t.rf,H t.tr,H t.vo,H t.no,H t.li,H t.le] 30)
 have xZ:((w.alloc (N #[H t.gr,H t.ac,H t.rf,H t.tr,H t.vo,H t.no,H t.li,H t.le] 30)).alloc (N #[H next,.slice a l.length A] 28)).heap.size = w.heap.size + 1 + 1:=by rw [zf,xz]
 have jr:(((w.alloc (N #[H t.gr,H t.ac,H t.rf,H t.tr,H t.vo,H t.no,H t.li,H t.le] 30)).alloc (N #[H next,.slice a l.length A] 28)).alloc (N #[H 0,H 0,H 0,H 0,H 0,H 0,H 0,H 0] 30)).heap.size = w.heap.size + 1 + 1 + 1:=by rw [zf,xZ]
 have r1:=zg w [H t.gr,H t.ac,H t.rf,H t.tr,H t.vo,H t.no,H t.li,H t.le] 30
 have t1:=zt w [H t.gr,H t.ac,H t.rf,H t.tr,H t.vo,H t.no,H t.li,H t.le] 30
 have r2:=zg (w.alloc (N #[H t.gr,H t.ac,H t.rf,H t.tr,H t.vo,H t.no,H t.li,H t.le] 30)) [H next,.slice a l.length A] 28
 have t3:=zt ((w.alloc (N #[H t.gr,H t.ac,H t.rf,H t.tr,H t.vo,H t.no,H t.li,H t.le] 30)).alloc (N #[H next,.slice a l.length A] 28)) [H 0,H 0,H 0,H 0,H 0,H 0,H 0,H 0] 30
 rw [xZ] at t3
 rw [xz] at r2
 have b1:=eB w (N #[H t.gr,H t.ac,H t.rf,H t.tr,H t.vo,H t.no,H t.li,H t.le] 30)
 have b2:Below (w.heap.size + 1) (w.alloc (N #[H t.gr,H t.ac,H t.rf,H t.tr,H t.vo,H t.no,H t.li,H t.le] 30)) ((w.alloc (N #[H t.gr,H t.ac,H t.rf,H t.tr,H t.vo,H t.no,H t.li,H t.le] 30)).alloc (N #[H next,.slice a l.length A] 28)):=(Below.refl _ _).alloc (by omega) _
 have b3:Below (w.heap.size + 1 + 1) ((w.alloc (N #[H t.gr,H t.ac,H t.rf,H t.tr,H t.vo,H t.no,H t.li,H t.le] 30)).alloc (N #[H next,.slice a l.length A] 28)) (((w.alloc (N #[H t.gr,H t.ac,H t.rf,H t.tr,H t.vo,H t.no,H t.li,H t.le] 30)).alloc (N #[H next,.slice a l.length A] 28)).alloc (N #[H 0,H 0,H 0,H 0,H 0,H 0,H 0,H 0] 30)):=(Below.refl _ _).alloc (by omega) _
 have HX:Hid (_∧_∧_∧_∧_):=⟨zb (zb r1 b2 (by omega)) b3 (by omega),ze (ze t1 b2 (by omega)) b3 (by omega),t3,(b1.trans (b2.mono (by omega))).trans (b3.mono (by omega)),Nat.le_of_eq jr.symm⟩
 have HBK:=Y (zb r2 b3 (by omega))
 clear xz xZ jr r1 r2 t1 t3 b1 b2 b3
 go_enter Tryz.func33,Tryz.ntmps33
 refine eF fun hj xq=>?_
 go_wp2_with fail
 refine U xq _ _ ?_
 clear xq
 generalize (((w.alloc (N #[H t.gr,H t.ac,H t.rf,H t.tr,H t.vo,H t.no,H t.li,H t.le] 30)).alloc (N #[H next,.slice a l.length A] 28)).alloc (N #[H 0,H 0,H 0,H 0,H 0,H 0,H 0,H 0] 30)) = xm at HX HBK ⊢
 have HX:Hid ((xm).rangeAt w.heap.size 0 (wbT t (l.take 0)).vs∧(xm).there w.heap.size 0 8∧(xm).there (w.heap.size + 1 + 1) 0 8∧ym w (xm)∧w.heap.size + 1 + 1 + 1 ≤ (xm).heap.size):=U HX
 have c0:xm.cell? (J (w.heap.size + 1) 0) = some (H next):=U HBK 0 _ rfl
 have c1:xm.cell? (J (w.heap.size + 1) 1) = some (.slice a l.length A):=U HBK 1 _ rfl
 go_wp2_with fail
 clear c0 c1
 go_loopw [10] (fun iv wr=>∃ (k:Nat),k ≤ l.length∧iv = H k∧Hid ((wr).rangeAt w.heap.size 0 (wbT t (l.take k)).vs∧(wr).there w.heap.size 0 8∧(wr).there (w.heap.size + 1 + 1) 0 8∧ym w (wr)∧w.heap.size + 1 + 1 + 1 ≤ (wr).heap.size)) (fun iv _=>l.length - (intOf iv).toNat)
 case atStart=>exact ⟨0,Nat.zero_le _,rfl,U HX⟩
 case round =>
  obtain ⟨k,hk,rfl,ur⟩:=hrel
  by_cases xI:k < l.length
  ·obtain ⟨e,je⟩:∃ e,l[k]? = some e:=⟨_,yF xI⟩
   obtain ⟨b,off,rfl,O,X⟩:=U HC k e je
   have qE:=Y (wb_step t l je)
   have uu:(k:Int) < l.length:=by omega
   have hse:=(U ur).2.2.2.2
   obtain ⟨g0,g1,g2,g3,g4,g5⟩:=zz (zb X (U ur).2.2.2.1 O)
   have vn:=eB wr (N (yu e.id e.side e.ticks e.left e.life e.tag).toArray 49)
   have HY:Hid (((wr.alloc (N (yu e.id e.side e.ticks e.left e.life e.tag).toArray 49))).rangeAt w.heap.size 0 (wbT t (l.take k)).vs∧((wr.alloc (N (yu e.id e.side e.ticks e.left e.life e.tag).toArray 49))).there w.heap.size 0 8∧((wr.alloc (N (yu e.id e.side e.ticks e.left e.life e.tag).toArray 49))).there (w.heap.size + 1 + 1) 0 8∧ym w ((wr.alloc (N (yu e.id e.side e.ticks e.left e.life e.tag).toArray 49)))∧w.heap.size + 1 + 1 + 1 ≤ ((wr.alloc (N (yu e.id e.side e.ticks e.left e.life e.tag).toArray 49))).heap.size):=⟨zb (U ur).1 vn (by omega),ze (U ur).2.1 vn (by omega),ze (U ur).2.2.1 vn (by omega),(U ur).2.2.2.1.trans (vn.mono (by omega)),yL hse vn.size⟩
   generalize wbT t (l.take k) = T at qE HY
   obtain ⟨uf,ue,uh,ui,uj,ug,uq,uo⟩:=T
   have xA:w.heap.size ≠ wr.heap.size:=by omega
   have hne':wr.heap.size ≠ w.heap.size:=by omega
   have d6:(wr.alloc (N (yu e.id e.side e.ticks e.left e.life e.tag).toArray 49)).cell? (yp w 6) = some (H uq):=(U HY).1 6 _ rfl
   have p6:(wr.alloc (N (yu e.id e.side e.ticks e.left e.life e.tag).toArray 49)).frozen? (yp w 6) = false:=by have:=((U HY).2.1 6 (by omega)).2; rwa [Nat.zero_add] at this
   have d7:(wr.alloc (N (yu e.id e.side e.ticks e.left e.life e.tag).toArray 49)).cell? (yp w 7) = some (H uo):=(U HY).1 7 _ rfl
   have p7:(wr.alloc (N (yu e.id e.side e.ticks e.left e.life e.tag).toArray 49)).frozen? (yp w 7) = false:=by have:=((U HY).2.1 7 (by omega)).2; rwa [Nat.zero_add] at this
   clear je X O vn
   have HN:Hid (wbT t (l.take (k + 1)) = ⟨uf,ue,uh,ui,uj,ug,wrap64 (uq + 1),wrap64 (uo + e.left)⟩):=U qE
   clear qE
   go_wp2_with fail
   go_roundw
   case rel=>exact ⟨k + 1,by omega,by go_num,by rw [U HN]; exact keepB (keepB (U HY) 6 (by simp [Tot.vs]) _) 7 (by simp [Tot.vs]) _⟩
   case measure=>simp [intOf]; omega
  ·have uu:¬ (k:Int) < l.length:=by omega
   rw [yX (by omega)] at ur
   generalize hT:wbT t l = T at ur
   have oh:=Y hT
   have HY:=Y (U ur)
   clear hT
   obtain ⟨uf,ue,uh,ui,uj,ug,uq,uo⟩:=T
   have c0:wr.cell? (yp w 0) = some (H uf):=(U HY).1 0 _ rfl
   obtain ⟨y0,z0,q0⟩:=zc (U HY).2.2.1 (j:=0) (by omega)
   have c1:wr.cell? (yp w 1) = some (H ue):=(U HY).1 1 _ rfl
   obtain ⟨y1,z1,q1⟩:=zc (U HY).2.2.1 (j:=1) (by omega)
   have c2:wr.cell? (yp w 2) = some (H uh):=(U HY).1 2 _ rfl
   obtain ⟨y2,z2,q2⟩:=zc (U HY).2.2.1 (j:=2) (by omega)
   have c3:wr.cell? (yp w 3) = some (H ui):=(U HY).1 3 _ rfl
   obtain ⟨y3,z3,q3⟩:=zc (U HY).2.2.1 (j:=3) (by omega)
   have c4:wr.cell? (yp w 4) = some (H uj):=(U HY).1 4 _ rfl
   obtain ⟨y4,z4,q4⟩:=zc (U HY).2.2.1 (j:=4) (by omega)
   have c5:wr.cell? (yp w 5) = some (H ug):=(U HY).1 5 _ rfl
   obtain ⟨y5,z5,q5⟩:=zc (U HY).2.2.1 (j:=5) (by omega)
   have c6:wr.cell? (yp w 6) = some (H uq):=(U HY).1 6 _ rfl
   obtain ⟨y6,z6,q6⟩:=zc (U HY).2.2.1 (j:=6) (by omega)
   have c7:wr.cell? (yp w 7) = some (H uo):=(U HY).1 7 _ rfl
   obtain ⟨y7,z7,q7⟩:=zc (U HY).2.2.1 (j:=7) (by omega)
   have xO:=Y (yV wr (w.heap.size + 1 + 1) 0 [H uf,H ue,H uh,H ui,H uj,H ug,H uq,H uo] (fun j K=>(U HY).2.2.1 j K))
   have vG:=Y (zm (w.heap.size + 1 + 1) (by omega) [H uf,H ue,H uh,H ui,H uj,H ug,H uq,H uo] 0 wr (U HY).2.2.2.1)
   clear ur
   go_wp2_with fail
   change bodyPost _ _ _ _ _ (wr.setCells (w.heap.size + 1 + 1) 0 [H uf,H ue,H uh,H ui,H uj,H ug,H uq,H uo])
   generalize wr.setCells (w.heap.size + 1 + 1) 0 [H uf,H ue,H uh,H ui,H uj,H ug,H uq,H uo] = WE at xO vG ⊢
   obtain ⟨d0,d1,d2,d3,d4,d5,d6,d7⟩:=yB (U xO)
   try simp only [Exit.inBlock,Exit.then]
   refine bodyPost_ret (by simp [results,Tryz.results33,go_sem,d0,d1,d2,d3,d4,d5,d6,d7]; try rfl) rfl ?_
   exact ⟨by rw [U oh],U vG⟩
structure RunSt where
 n:Int
 l:List Od
 g:List (List Ev)
 t:Tot
def tot0:Tot:=⟨0,0,0,0,0,0,0,0⟩
def rstep (s:RunSt) (c:Cm):RunSt:=⟨stN s.n s.l c,stL s.n s.l c,s.g ++ [stE s.n s.l c],wgT s.t (stE s.n s.l c)⟩
def runS (cs:List Cm):RunSt:=cs.foldl rstep ⟨1,[],[],tot0⟩
theorem cK (cs:List Cm) {k:Nat} {c:Cm} (h:cs[k]? = some c):runS (cs.take (k + 1)) = rstep (runS (cs.take k)) c:=by
 unfold runS
 rw [List.take_add_one,h,List.foldl_append]; rfl
theorem run_take (cs:List Cm) (h:cs.length ≤ 200):∀ k,k ≤ cs.length→Inv (runS (cs.take k)).n (runS (cs.take k)).l∧1 ≤ (runS (cs.take k)).n∧(runS (cs.take k)).n ≤ 1 + k∧(runS (cs.take k)).g.length = k:=by
 intro k
 induction k with
 | zero=>intro _; exact ⟨inv_start,by simp [runS],by simp [runS],by simp [runS]⟩
 | succ k ih =>
  intro hk
  obtain ⟨G,D,h3,h4⟩:=ih (by omega)
  obtain ⟨c,hc⟩:∃ c,cs[k]? = some c:=⟨_,yF (by omega)⟩
  rw [cK cs hc]
  generalize runS (cs.take k) = s at G D h3 h4 ⊢
  obtain ⟨i1,i2,i3⟩:=inv_step c G (by omega) (by omega)
  refine ⟨i1,?_,?_,?_⟩
  ·show 1 ≤ stN s.n s.l c; omega
  ·show stN s.n s.l c ≤ 1 + ((k + 1:Nat):Int); omega
  ·show (s.g ++ [stE s.n s.l c]).length = k + 1; simp [h4]
theorem run_inv (cs:List Cm) (h:cs.length ≤ 200):Inv (runS cs).n (runS cs).l∧1 ≤ (runS cs).n∧(runS cs).n ≤ 1 + cs.length∧(runS cs).g.length = cs.length:=by
 have:=run_take cs h cs.length hb
 rwa [yX hb] at this
theorem cntF_zero {n:Nat}:cntF n = 0 ↔ n ≤ 200:=by
 unfold cntF
 split
 ·constructor
  ·intro h; cases h
  ·intro h; omega
 ·split
  ·constructor
   ·intro h; cases h
   ·intro h; omega
  ·exact ⟨fun _=>by omega,fun _=>rfl⟩
def rsF (cs:List Cm):RunSt:=if cs.length ≤ 200 then { runS cs with t:=wbT (runS cs).t (runS cs).l } else ⟨0,[],[],tot0⟩
def spN (next:Int) (l:List Od) (c:Cm):Int:=if okS next l = true then stN next l c else 0
def spL (next:Int) (l:List Od) (c:Cm):List Od:=if okS next l = true then stL next l c else []
def spE (next:Int) (l:List Od) (c:Cm):List Ev:=if okS next l = true then stE next l c else []
theorem box3 (w:World) (bl cl rl:List Value) (T1 T2 T3:TypeId):(((w.alloc (Obj.cells bl.toArray T1)).alloc (Obj.cells cl.toArray T2)).alloc (Obj.cells rl.toArray T3)).heap.size = w.heap.size + 3∧World.rangeAt (((w.alloc (Obj.cells bl.toArray T1)).alloc (Obj.cells cl.toArray T2)).alloc (Obj.cells rl.toArray T3)) w.heap.size 0 bl∧World.rangeAt (((w.alloc (Obj.cells bl.toArray T1)).alloc (Obj.cells cl.toArray T2)).alloc (Obj.cells rl.toArray T3)) (w.heap.size + 1) 0 cl∧World.rangeAt (((w.alloc (Obj.cells bl.toArray T1)).alloc (Obj.cells cl.toArray T2)).alloc (Obj.cells rl.toArray T3)) (w.heap.size + 1 + 1) 0 rl∧World.there (((w.alloc (Obj.cells bl.toArray T1)).alloc (Obj.cells cl.toArray T2)).alloc (Obj.cells rl.toArray T3)) (w.heap.size + 1 + 1) 0 rl.length∧ym w (((w.alloc (Obj.cells bl.toArray T1)).alloc (Obj.cells cl.toArray T2)).alloc (Obj.cells rl.toArray T3)):=by
 have xz:=zf w (Obj.cells bl.toArray T1)
 have xZ:((w.alloc (Obj.cells bl.toArray T1)).alloc (Obj.cells cl.toArray T2)).heap.size = w.heap.size + 1 + 1:=by rw [zf,xz]
 have r1:=zg w bl T1
 have r2:=zg (w.alloc (Obj.cells bl.toArray T1)) cl T2
 have r3:=zg ((w.alloc (Obj.cells bl.toArray T1)).alloc (Obj.cells cl.toArray T2)) rl T3
 have t3:=zt ((w.alloc (Obj.cells bl.toArray T1)).alloc (Obj.cells cl.toArray T2)) rl T3
 have b1:=eB w (Obj.cells bl.toArray T1)
 have b2:Below (w.alloc (Obj.cells bl.toArray T1)).heap.size (w.alloc (Obj.cells bl.toArray T1)) ((w.alloc (Obj.cells bl.toArray T1)).alloc (Obj.cells cl.toArray T2)):=eB _ _
 have b3:Below ((w.alloc (Obj.cells bl.toArray T1)).alloc (Obj.cells cl.toArray T2)).heap.size ((w.alloc (Obj.cells bl.toArray T1)).alloc (Obj.cells cl.toArray T2)) (((w.alloc (Obj.cells bl.toArray T1)).alloc (Obj.cells cl.toArray T2)).alloc (Obj.cells rl.toArray T3)):=eB _ _
 rw [xz] at r2
 rw [xZ] at r3 t3
 refine ⟨by rw [zf,xZ],zb (zb r1 b2 (by omega)) b3 (by omega),zb r2 b3 (by omega),r3,t3,b1.trans ((eE b2 b3).mono b1.size)⟩
def CSB (mb gb gc nL nE cv cg:Nat) (av ag:Option Addr) (tN:Int) (W:World):Nat→Value→Prop
 | 0,v=>v = I mb 0
 | 1,v=>v = I mb 1
 | 2,v=>v = .agg #[H tN,.slice av nL cv]
 | 3,v=>v = I mb 0
 | 4,v=>v = I mb 0
 | 5,v=>v = .slice (some (J gb 0)) 1 gc
 | 6,v=>v = I gb 0
 | 7,v=>v = .slice ag nE cg
 | 9,v=>v = .slice ag nE cg
 | 10,v=>v = H 0
 | _,_=>True
theorem csb_mono {R mb gb gc nL nE cv cg:Nat} {av ag:Option Addr} {tN:Int}:∀ W W' j v,KB R W W'→CSB mb gb gc nL nE cv cg av ag tN W j v→CSB mb gb gc nL nE cv cg av ag tN W' j v:=fun _ _ _ _ _ h=>h
theorem dP {W W':World} {b o n:Nat} (h:W.there b o n) (O:W'.heap[b]? = W.heap[b]?):W'.there b o n:=fun j K=>by
 rw [yO (a:=(J b (o + j))) O,World.frozen?_of_block (a:=(J b (o + j))) O]; exact h j K
theorem gRow_one {W:World} {B:Nat} {gv g:Value} (h:GRow W B gv [g]):∃ gb gc,gv = .slice (some (J gb 0)) 1 gc∧W.cell? (J gb 0) = some g∧B ≤ gb:=by
 rcases h.2 with ⟨_,h0⟩ | ⟨g',A,xp,rfl,O,jV,h4,h5,h6,h7⟩
 ·cases h0
 ·refine ⟨g',A,rfl,?_,O⟩
  rw [cell_of_row W g' 0 xp _ (0,0) jV]
  have:xp.toList[0]? = some g:=by
   have:=congrArg (fun l=>l[0]?) h7
   simpa using this
  simpa using this
theorem implStepBook_any (next:Int) (vb:Value) (l:List Od) (c:Cm) (w:World) (hr:RdR Od.vs 6 w vb l) (hs:SlOk vb) (hgt:∀ o ∈ l,o.tag.size ≤ maxLen) (ht:c.g.size ≤ maxLen) :
  Calls Tryz.prog 15 #[.agg #[H next,vb],cmV c] w fun e w'=>∃ vq vg,e = yl (.tuple #[.agg #[H (spN next l c),vq],vg,H (reaC next l)])∧ORow w' w.heap.size vq (spL next l c)∧ERow w' w.heap.size vg (spE next l c)∧ym w w':=by
 have HR:=Y hr
 have vC:=Y hs
 have HGT:=Y hgt
 have qw:=Y ht
 obtain ⟨a,A,rfl,xC,hc⟩:=hr
 clear hc hs hgt ht xC
 have HDO:=Y (fun (uM:okS next l = true) (mb B Bo:Nat) (vq:Value) (W:World) (h:EnS mb B Bo W (.slice none 0 0) [] [] next vq l ⟨0,0,0,0,0,0,0,0⟩ (.slice none 0 0) [])=>doE_any c W h (okS_good uM).1 (okS_good uM).2.1 (okS_good uM).2.2 (U qw) (by simp))
 have uX:Hid (spN next l c = if okS next l = true then stN next l c else 0):=rfl
 have HSL2:Hid (spL next l c = if okS next l = true then stL next l c else []):=rfl
 have uW:Hid (spE next l c = if okS next l = true then stE next l c else []):=rfl
 have uH:Hid (reaC next l = if okS next l = true then 0 else 1):=rfl
 obtain ⟨kk,s,ty,li,F,ii,pr,L⟩:=c
 generalize spN next l ⟨kk,s,ty,li,F,ii,pr,L⟩ = sN at uX ⊢
 generalize spL next l ⟨kk,s,ty,li,F,ii,pr,L⟩ = sL at HSL2 ⊢
 generalize spE next l ⟨kk,s,ty,li,F,ii,pr,L⟩ = sE at uW ⊢
 generalize reaC next l = sC at uH ⊢
 generalize stN next l ⟨kk,s,ty,li,F,ii,pr,L⟩ = tN at uX HDO
 generalize stL next l ⟨kk,s,ty,li,F,ii,pr,L⟩ = tL at HSL2 HDO
 generalize stE next l ⟨kk,s,ty,li,F,ii,pr,L⟩ = tE at uW HDO
 unfold cmV at HDO ⊢
 simp only at HDO qw ⊢
 have HB:=Y (box3 w [H next,.slice a l.length A] (yv kk s ty li F ii pr L) [H 0,.slice none 0 0] 28 43 28)
 go_enter Tryz.func15,Tryz.ntmps15
 refine eF fun hj xq=>?_
 go_wp2_with fail
 refine U xq _ _ ?_
 clear xq
 change Hid ((((w.alloc (N #[H next,.slice a l.length A] 28)).alloc (N (yv kk s ty li F ii pr L).toArray 43)).alloc (N #[H 0,.slice none 0 0] 28)).heap.size = w.heap.size + 3∧World.rangeAt (((w.alloc (N #[H next,.slice a l.length A] 28)).alloc (N (yv kk s ty li F ii pr L).toArray 43)).alloc (N #[H 0,.slice none 0 0] 28)) w.heap.size 0 [H next,.slice a l.length A]∧World.rangeAt (((w.alloc (N #[H next,.slice a l.length A] 28)).alloc (N (yv kk s ty li F ii pr L).toArray 43)).alloc (N #[H 0,.slice none 0 0] 28)) (w.heap.size + 1) 0 (yv kk s ty li F ii pr L)∧World.rangeAt (((w.alloc (N #[H next,.slice a l.length A] 28)).alloc (N (yv kk s ty li F ii pr L).toArray 43)).alloc (N #[H 0,.slice none 0 0] 28)) (w.heap.size + 1 + 1) 0 [H 0,.slice none 0 0]∧World.there (((w.alloc (N #[H next,.slice a l.length A] 28)).alloc (N (yv kk s ty li F ii pr L).toArray 43)).alloc (N #[H 0,.slice none 0 0] 28)) (w.heap.size + 1 + 1) 0 2∧ym w (((w.alloc (N #[H next,.slice a l.length A] 28)).alloc (N (yv kk s ty li F ii pr L).toArray 43)).alloc (N #[H 0,.slice none 0 0] 28))) at HB
 generalize (((w.alloc (N #[H next,.slice a l.length A] 28)).alloc (N (yv kk s ty li F ii pr L).toArray 43)).alloc (N #[H 0,.slice none 0 0] 28)) = xm at HB ⊢
 have xG:Hid (∀ W:World,ym xm W→W.cell? (yp w 0) = some (H next)∧W.cell? (yp w 1) = some (.slice a l.length A)∧W.cell? (J (w.heap.size + 1) 0) = some (H kk)∧W.cell? (J (w.heap.size + 1) 1) = some (H s)∧W.cell? (J (w.heap.size + 1) 2) = some (H ty)∧W.cell? (J (w.heap.size + 1) 3) = some (H li)∧W.cell? (J (w.heap.size + 1) 4) = some (H F)∧W.cell? (J (w.heap.size + 1) 5) = some (H ii)∧W.cell? (J (w.heap.size + 1) 6) = some (yi pr)∧W.cell? (J (w.heap.size + 1) 7) = some (yj L)):=fun W hW =>
  have p:=zb (U HB).2.1 hW (by have:=(U HB).1; omega)
  have q:=zb (U HB).2.2.1 hW (by have:=(U HB).1; omega)
  ⟨p 0 _ rfl,p 1 _ rfl,q 0 _ rfl,q 1 _ rfl,q 2 _ rfl,q 3 _ rfl,q 4 _ rfl,q 5 _ rfl,q 6 _ rfl,q 7 _ rfl⟩
 obtain ⟨z0,z1,y0,y1,y2,y3,y4,y5,y6,y7⟩:=U xG xm (Below.refl _ _)
 refine eF fun hj xq=>?_
 go_wp2_with fail
 refine (ed next _ l xm (zh (U HR) (U HB).2.2.2.2.2 hb) (U HGT)).mono ?_
 rw [okI_eq]
 rintro e w3 ⟨rfl,uw⟩
 have xP:=Y uw
 clear uw z0 z1 y0 y1 y2 y3 y4 y5 y6 y7
 have vz:w.heap.size + 1 + 1 < xm.heap.size:=by have:=(U HB).1; omega
 cases uM:okS next l
 ·have HK:Hid (sN = 0∧sL = []∧sE = []∧sC = 1):=⟨by rw [U uX,uM]; rfl,by rw [U HSL2,uM]; rfl,by rw [U uW,uM]; rfl,by rw [U uH,uM]; rfl⟩
  have jg:=Y (ze (U HB).2.2.2.2.1 (U xP) vz)
  have HR3:=Y (zb (U HB).2.2.2.1 (U xP) vz)
  have x0:w3.cell? (J (w.heap.size + 1 + 1) 0) = some (H 0):=U HR3 0 _ rfl
  have x1:w3.cell? (J (w.heap.size + 1 + 1) 1) = some (.slice none 0 0):=U HR3 1 _ rfl
  have q0:w3.frozen? (J (w.heap.size + 1 + 1) 0) = false:=(U jg 0 (by omega)).2
  have q1:w3.frozen? (J (w.heap.size + 1 + 1) 1) = false:=(U jg 1 (by omega)).2
  clear uM uX HSL2 uW uH HDO
  have HW:Hid (ym w ((w3.setCell (J (w.heap.size + 1 + 1) 0) (H 0)).setCell (J (w.heap.size + 1 + 1) 1) (.slice none 0 0))):=(((U HB).2.2.2.2.2.trans ((U xP).mono (U HB).2.2.2.2.2.size)).setCell (p:=(J (w.heap.size + 1 + 1) 0)) (show w.heap.size ≤ w.heap.size + 1 + 1 by omega) _).setCell (p:=(J (w.heap.size + 1 + 1) 1)) (show w.heap.size ≤ w.heap.size + 1 + 1 by omega) _
  go_wp2_with fail
  have d0:((w3.setCell (J (w.heap.size + 1 + 1) 0) (H 0)).setCell (J (w.heap.size + 1 + 1) 1) (.slice none 0 0)).cell? (J (w.heap.size + 1 + 1) 0) = some (H 0):=(yJ _ _ _ _ (zQ (by decide))).trans (yK _ _ _ x0)
  have d1:((w3.setCell (J (w.heap.size + 1 + 1) 0) (H 0)).setCell (J (w.heap.size + 1 + 1) 1) (.slice none 0 0)).cell? (J (w.heap.size + 1 + 1) 1) = some (.slice none 0 0):=yK _ _ _ ((yJ _ _ _ _ (zQ (by decide))).trans x1)
  refine bodyPost_ret (by simp [results,Tryz.results15,go_sem,d0,d1]; try rfl) rfl ?_
  obtain ⟨rfl,rfl,rfl,rfl⟩:=U HK
  exact ⟨_,_,rfl,World.ownsRow_nil _ _ _ _,World.ownsRow_nil _ _ _ _,U HW⟩
 have HK:Hid (sN = tN∧sL = tL∧sE = tE∧sC = 0):=⟨by rw [U uX,if_pos uM],by rw [U HSL2,if_pos uM],by rw [U uW,if_pos uM],by rw [U uH,if_pos uM]⟩
 have HDO1:=Y (U HDO uM)
 have kS:=(okS_good uM).1.len
 clear uM uX HSL2 uW uH HDO
 obtain ⟨z0,z1,y0,y1,y2,y3,y4,y5,y6,y7⟩:=U xG w3 (U xP)
 go_wp2_with fail
 refine U xq _ _ ?_
 clear xq
 refine eF fun hj xq=>?_
 go_wp2_with fail
 refine (copyBook_any next _ l w3 (zh (U HR) ((U HB).2.2.2.2.2.trans ((U xP).mono (U HB).2.2.2.2.2.size)) hb) (U vC) (by omega)).mono ?_
 rintro e w4 ⟨v4,rfl,kr,xy⟩
 obtain ⟨a4,c4,rfl⟩:=zL kr
 have xY:=Y (eE (U xP) xy)
 have hbA:=eB w4 (N #[.slice none 0 0,H next,.slice a4 l.length c4,H 0,H 0,H 0,H 0,H 0,H 0,H 0,H 0,.slice none 0 0] 71)
 have qD:Hid (EnS w4.heap.size w3.heap.size (w4.alloc (N #[.slice none 0 0,H next,.slice a4 l.length c4,H 0,H 0,H 0,H 0,H 0,H 0,H 0,H 0,.slice none 0 0] 71)).heap.size (w4.alloc (N #[.slice none 0 0,H next,.slice a4 l.length c4,H 0,H 0,H 0,H 0,H 0,H 0,H 0,H 0,.slice none 0 0] 71)) (.slice none 0 0) [] [] next (.slice a4 l.length c4) l ⟨0,0,0,0,0,0,0,0⟩ (.slice none 0 0) []):=⟨zg w4 [.slice none 0 0,H next,.slice a4 l.length c4,H 0,H 0,H 0,H 0,H 0,H 0,H 0,H 0,.slice none 0 0] _,zt w4 [.slice none 0 0,H next,.slice a4 l.length c4,H 0,H 0,H 0,H 0,H 0,H 0,H 0,H 0,.slice none 0 0] _,World.ownsRow_nil _ _ _ _,rfl,fun i g es hg=>by simp at hg,⟨fun g hg=>by simp at hg,List.Pairwise.nil⟩,zj kr hbA,World.ownsRow_nil _ _ _ _,⟨_,heap_alloc_new w4 _⟩,yL xy.size hbA.size,Nat.le_refl _⟩
 have qd:=Y (eE (U xY) hbA)
 have hmb:w3.heap.size ≤ w4.heap.size:=xy.size
 clear hbA xy kr z0 z1 y0 y1 y2 y3 y4 y5 y6 y7
 go_wp2_with fail
 refine U xq _ _ ?_
 clear xq
 generalize (w4.alloc (N #[.slice none 0 0,H next,.slice a4 l.length c4,H 0,H 0,H 0,H 0,H 0,H 0,H 0,H 0,.slice none 0 0] 71)) = yb at qD qd ⊢
 obtain ⟨z0,z1,y0,y1,y2,y3,y4,y5,y6,y7⟩:=U xG yb (U qd)
 go_wp2_with fail
 refine (U HDO1 _ _ _ _ yb (U qD)).mono ?_
 rintro e w5 ⟨rfl,⟨Bo5,gv5,gs5,vq5,qg⟩,kD⟩
 clear z0 z1 y0 y1 y2 y3 y4 y5 y6 y7
 obtain ⟨hg5l,jV⟩:gs5.length = 1∧True:=⟨by have:=qg.glen; simpa using this,trivial⟩
 obtain ⟨g0,rfl⟩:=List.length_eq_one_iff.1 hg5l
 obtain ⟨av,cv,hv⟩:=zL qg.orow
 subst hv
 obtain ⟨ag,cg,hgv⟩:=zL (qg.geach 0 g0 tE rfl rfl)
 subst hgv
 obtain ⟨gb,gc,hgv5,hgb⟩:=gRow_one qg.grow
 subst hgv5
 have vJ:=Y qg
 have hR5:w.heap.size + 1 + 1 < yb.heap.size:=yH vz (U qd).size
 have hR3:w.heap.size + 1 + 1 < w3.heap.size:=yH vz (U xP).size
 have hTY:=ze (U HB).2.2.2.2.1 (U qd) vz
 have vN:Hid (w5.there (w.heap.size + 1 + 1) 0 2):=dP hTY (kD.block _ hR3 (by omega))
 have xJ:Hid (ym w w5):=by
  have G:=(U HB).2.2.2.2.2.trans ((U qd).mono (U HB).2.2.2.2.2.size)
  have h3:w.heap.size ≤ w3.heap.size:=by omega
  exact ⟨kD.os.trans G.os,kD.tape.trans G.tape,kD.output.trans G.output,yL G.size kD.size,fun k hk=>(kD.block k (by omega) (by omega)).trans (G.block k hk)⟩
 have hR55:w.heap.size + 1 + 1 < w5.heap.size:=yH hR5 kD.size
 have hmbR:w4.heap.size ≠ w.heap.size + 1 + 1:=by omega
 have hgbR:gb ≠ w.heap.size + 1 + 1:=by omega
 have hwB:w.heap.size ≤ w3.heap.size:=by omega
 have HM0:Hid (w5.cell? (yp w4 0) = some (.slice (some (J gb 0)) 1 gc)):=qg.cells 0 _ rfl
 have vS:Hid (w5.cell? (yp w4 1) = some (H tN)):=qg.cells 1 _ rfl
 have vx:Hid (w5.cell? (yp w4 2) = some (.slice av tL.length cv)):=qg.cells 2 _ rfl
 have HG0:Hid (w5.cell? (J gb 0) = some (.slice ag tE.length cg)):=hgb.1
 clear qg kD hTY hgb hg5l
 go_wp2_with fail
 refine zi (RXA (fun f=>{ tmps:=#[.agg #[H next,.slice a l.length A],.agg (yv kk s ty li F ii pr L).toArray,yn w 0,I (w.heap.size + 1) 0,I (w.heap.size + 1 + 1) 0,f 9,f 10,yn w4 0,.agg #[H next,.slice a l.length A],.bool true,.bool false,M,.agg #[H next,.slice a l.length A],.agg #[H next,.slice a4 l.length c4],.agg #[.slice none 0 0,H next,.slice a4 l.length c4,H 0,H 0,H 0,H 0,H 0,H 0,H 0,H 0],.agg #[.slice none 0 0,H next,.slice a4 l.length c4,H 0,H 0,H 0,H 0,H 0,H 0,H 0,H 0,.slice none 0 0],.agg (yv kk s ty li F ii pr L).toArray,.tuple #[],f 0,f 1,f 2,f 3,f 4,f 5,f 6,f 7],defers:=[] }) (CSB w4.heap.size gb gc tL.length tE.length cv cg av ag tN) (w.heap.size + 1 + 1) 2 8 (fun _=>[H tN,.slice av tL.length cv]) w5) (by kernel_rfl) ?_ ?_ ?_
 ·exact ⟨fun j=>if j = 9 then .slice none 0 0 else if j = 10 then H 0 else M,rfl,rx_start hR55 (U vN)⟩
 rotate_left
 ·rintro x xj V i op ⟨f,rfl,E⟩ X hx Z xu Q
  have xw:=Y E
  have xk:∀ (p:Addr) u,w5.cell? p = some u→p.block ≠ w.heap.size + 1 + 1→V.cell? p = some u:=fun p u hu hp=>kb_cell E.k hu hp
  match i,Z with
  | 0,Z | 3,Z =>
   obtain rfl:=ya Z
   clear Q E X xk
   rw [if_pos (by rfl)];unfold Oper.wp;go_simp
   exact ⟨upd f _ (yn w4 0),by simp [upd],zX (U xw) _ _ (by decide) (fun _=>rfl) rfl⟩
  | 1,Z =>
   obtain rfl:=ya Z
   have g0:f 0 = yn w4 0:=E.c 0 (yd Q 0 rfl)
   clear Q E X xk
   rw [if_pos (by rfl)];unfold Oper.wp;go_simp
   exact ⟨upd f 1 (yn w4 1),by simp [upd,g0],zX (U xw) 1 _ (by decide) (fun _=>rfl) rfl⟩
  | 2,Z =>
   obtain rfl:=ya Z
   have g1:f 1 = yn w4 1:=E.c 1 (yd Q 1 rfl)
   have z1:=xk (yp w4 1) _ (U vS) hmbR
   have z2:=xk (yp w4 2) _ (U vx) hmbR
   clear Q E X xk
   rw [if_pos (by rfl)];unfold Oper.wp;go_simp
   exact ⟨upd f 2 (.agg #[H tN,.slice av tL.length cv]),by simp [upd,g1],zX (U xw) 2 _ (by decide) (fun _=>rfl) rfl⟩
  | 4,Z =>
   obtain rfl:=ya Z
   have g3:f 3 = yn w4 0:=E.c 3 (yd Q 3 rfl)
   clear Q E X xk
   rw [if_pos (by rfl)];unfold Oper.wp;go_simp
   exact ⟨upd f 4 (yn w4 0),by simp [upd,g3],zX (U xw) 4 _ (by decide) (fun _=>rfl) rfl⟩
  | 5,Z =>
   obtain rfl:=ya Z
   have g4:f 4 = yn w4 0:=E.c 4 (yd Q 4 rfl)
   have z0:=xk (yp w4 0) _ (U HM0) hmbR
   clear Q E X xk
   rw [if_pos (by rfl)];unfold Oper.wp;go_simp
   exact ⟨upd f 5 (.slice (some (J gb 0)) 1 gc),by simp [upd,g4],zX (U xw) 5 _ (by decide) (fun _=>rfl) rfl⟩
  | 6,Z =>
   obtain rfl:=ya Z
   have g5:f 5 = .slice (some (J gb 0)) 1 gc:=E.c 5 (yd Q 5 rfl)
   clear Q E X xk
   rw [if_pos (by rfl)];unfold Oper.wp;go_simp
   exact ⟨upd f 6 (I gb 0),by simp [upd,g5],zX (U xw) 6 _ (by decide) (fun _=>rfl) rfl⟩
  | 7,Z =>
   obtain rfl:=ya Z
   have g6:f 6 = I gb 0:=E.c 6 (yd Q 6 rfl)
   have z0:=xk (J gb 0) _ (U HG0) hgbR
   clear Q E X xk
   rw [if_pos (by rfl)];unfold Oper.wp;go_simp
   exact ⟨upd f 7 (.slice ag tE.length cg),by simp [upd,g6],zX (U xw) 7 _ (by decide) (fun _=>rfl) rfl⟩
  | 8,Z =>
   obtain rfl:=ya Z
   have g2:f 2 = .agg #[H tN,.slice av tL.length cv]:=E.c 2 (yd Q 2 rfl)
   obtain ⟨y0,z0,q0⟩:=zc E.t (j:=0) (by omega)
   obtain ⟨y1,z1,q1⟩:=zc E.t (j:=1) (by omega)
   clear Q E X xk
   rw [if_pos (by rfl)];unfold Oper.wp;go_simp
   exact ⟨f,by simp [g2],rx_store csb_mono (U xw) xu rfl (fun _ _=>trivial)⟩
  | 9,Z =>
   obtain rfl:=ya Z
   have g7:f 7 = .slice ag tE.length cg:=E.c 7 (yd Q 7 rfl)
   clear Q E X xk
   rw [if_pos (by rfl)];unfold Oper.wp;go_simp
   exact ⟨upd f 9 (.slice ag tE.length cg),by simp [upd,g7],zX (U xw) 9 _ (by decide) (fun _=>rfl) rfl⟩
  | 10,Z =>
   obtain rfl:=ya Z
   clear Q E X xk
   rw [if_pos (by rfl)];unfold Oper.wp;go_simp
   exact ⟨upd f 10 (H 0),by simp [upd],zX (U xw) 10 _ (by decide) (fun _=>rfl) rfl⟩
  | n + 11,Z=>simp at Z
 ·rintro x xj V ⟨f,rfl,E⟩ hx xL
  have xn:=zO xL hx (by kernel_rfl)
  have e9:f 9 = .slice ag tE.length cg:=E.c 9 (xn 9 (by simp))
  have jR:f 10 = H 0:=E.c 10 (xn 10 (by simp))
  have vk:=E.r (xn 8 (by simp))
  have HO:Hid (ORow V w.heap.size (.slice av tL.length cv) tL∧ERow V w.heap.size (.slice ag tE.length cg) tE):=⟨zE (bX (U vJ).orow E.k hR3) hwB,zE (bX ((U vJ).geach 0 _ tE rfl rfl) E.k hR3) hwB⟩
  have xr:Hid (ym w V):=⟨E.k.os.trans (U xJ).os,E.k.tape.trans (U xJ).tape,E.k.output.trans (U xJ).output,yL (U xJ).size E.k.size,fun k hk=>(E.k.block k (yH hk (U xJ).size) (by omega)).trans ((U xJ).block k hk)⟩
  simp only [e9,jR]
  generalize f 0 = v0,f 1 = v1,f 2 = v2,f 3 = v3,f 4 = v4,f 5 = v5,f 6 = v6,f 7 = v7
  have d0:V.cell? (J (w.heap.size + 1 + 1) 0) = some (H tN):=vk 0 _ rfl
  have d1:V.cell? (J (w.heap.size + 1 + 1) 1) = some (.slice av tL.length cv):=vk 1 _ rfl
  clear E xn xL hx e9 jR vk
  go_wp2_with fail
  refine bodyPost_ret (by simp [results,Tryz.results15,go_sem,d0,d1]; try rfl) rfl ?_
  obtain ⟨rfl,rfl,rfl,rfl⟩:=U HK
  exact ⟨_,_,rfl,(U HO).1,(U HO).2,U xr⟩
end Go.Proofs.YtbakanofkghmiaaGreat
