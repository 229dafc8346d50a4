/-
  An order cancelled by the engine: proved by walking the method.
-/
import Derived.Test.YtdliebbfcmdmaaaGreatMj21
set_option linter.unusedVariables false
set_option maxHeartbeats 6400000
set_option maxRecDepth 100000
namespace Go.Proofs.YtdliebbfcmdmaaaGreat
open Go.RowKit
def DVE (vs:List Value) (p:Prop) (W:World) (j:Nat) (v:Value):Prop:=∀ u,vs[j]? = some u→v = u
theorem dvE_mono {vs:List Value}:∀ p W W' j v,yn W W'→DVE vs p W j v→DVE vs p W' j v:=fun _ _ _ _ _ _ h=>h
theorem cancelE_any {mb B Bo:Nat} {gv:Value} {gs:List Value} {gl:List (List Ev)} {next:Int} {vq:Value} {l:List Od} {t:Tot} {vo:Value} {ts:List Ev} (id:Int) (k:Nat) (c:Od) (w:World) (h:EnS mb B Bo w gv gs gl next vq l t vo ts) (hl:l.length ≤ 1000) (hn:ts.length ≤ 1000) (hk:plc l id = k) (hc:l[k]? = some c) (pC:0 ≤ c.left) (kW:c.left ≤ 1000000) :
  Calls Tryz.prog 33 #[I mb 0,.agg #[H id]] w fun r w'=>r = ym (.tuple #[])∧(∃ vw qp,EnS mb B Bo w' gv gs gl next vw (az l k c c.left) t qp (ts ++ [⟨6,zCm,id,0,c.left,0,0⟩]))∧KeptBut mb B w w':=by
 have xB:l ≠ []:=by rintro rfl; simp at hc
 have kO:=(yG.1 hc).1
 obtain ⟨g,A,rfl,vY,hBg,hgw⟩:=df h.orow xB
 have qz:=h.lt
 have pA:B ≤ w.heap.size:=yN h.bo h.le
 have xX:=ed w (E #[H id] 77)
 have HE:=Y (zN h xX)
 have xW:=Y xX
 have xA:w.heap.size < (w.alloc (E #[H id] 77)).heap.size:=by rw [ze]; omega
 have HKR:Hid (World.rangeAt (w.alloc (E #[H id] 77)) w.heap.size 0 [H id]):=zg w [H id] _
 have HKB:Hid (∃ xr,(w.alloc (E #[H id] 77)).heap[w.heap.size]? = some (.cells xr 77 (0,0))):=⟨_,heap_alloc_new w _⟩
 have HPL:=Y hk
 have jQ:=Y hc
 have HC01:Hid (0 ≤ c.left∧c.left ≤ 1000000):=⟨pC,kW⟩
 clear h xX hk hc xB pC kW
 go_enter Tryz.func33,Tryz.ntmps33
 refine ei fun hR xu=>?_
 go_wp2_with fail
 refine U xu _ _ ?_
 clear xu
 generalize (w.alloc (E #[H id] 77)) = ty at HE xW xA HKR HKB ⊢
 have hgX:g < ty.heap.size:=by omega
 have jY:mb < ty.heap.size:=by omega
 have qe:Hid (ty.cell? (J mb 1) = some (H next)):=(U HE).cells 1 _ rfl
 have vD:Hid (ty.cell? (J mb 2) = some (.slice (some (J g 0)) l.length A)):=(U HE).cells 2 _ rfl
 have HK0:Hid (ty.cell? (yq w 0) = some (H id)):=U HKR 0 _ rfl
 have jf:=Y (zK (U HE).orow (by omega))
 have vK:Hid (ty.cell? (J g (k * 6 + 3)) = some (H c.left)):=(row_hereE (U HE).orow hl (U jQ)).1 3 _ rfl
 have hkl':(k:Int) < l.length:=by omega
 have hk0:(0:Int) ≤ k:=by omega
 refine ei fun hR xu=>?_
 refine zh (RG ty (fun f=>{ tmps:=#[I mb 0,.agg #[H id],M,yp w 0,f 17,f 0,f 1,f 2,f 3,f 4,f 5,f 6,f 7,f 8,f 9,f 10,f 11,f 12,f 13,f 14,f 15,f 16,M,M,M,M,M,M,M,M,M,M,M,M,M,M],defers:=[] }) 99 (DVE [I mb 0,I mb 0,I mb 0,I mb 1,I mb 2,.slice (some (J g 0)) l.length A,I mb 0,I mb 0,I mb 0,I mb 1,.agg #[H next,.slice (some (J g 0)) l.length A],yp w 0,H id,H k,I g (k * 6),I g (k * 6 + 3),H c.left,H c.left])) (by kernel_rfl) ?_ ?_ ?_
 ·exact ⟨fun _=>M,rfl,⟨rfl,rfl,rfl,Nat.le_refl _,fun _ _=>rfl⟩,fun j R=>by rw [yI] at R; split at R <;> simp at R⟩
 ·rintro x xm V ⟨f,rfl,xk,hD⟩ hx xP
  have xp:=zT xP hx (acyc _ (by kernel_rfl))
  have e17:f 17 = H c.left:=hD 17 (xp 17 (by simp)) _ rfl
  refine U xu _ _ ?_
  clear xu
  simp only [e17]
  generalize f 0 = v0,f 1 = v1,f 2 = v2,f 3 = v3,f 4 = v4,f 5 = v5,f 6 = v6,f 7 = v7,f 8 = v8,f 9 = v9,f 10 = v10,f 11 = v11,f 12 = v12,f 13 = v13,f 14 = v14,f 15 = v15,f 16 = v16
  have pn:=Y (zN (U HE) xk)
  have HKV:Hid (KeptBut mb B w V):=zi (zz (U xW) pA) (zz xk (by omega))
  have z3:V.cell? (yq w 0) = some (H id):=(xk.cell (p:=(yq w 0)) xA).trans (U HK0)
  have hsV:w.heap.size < V.heap.size:=yJ xA xk.size
  have HBoX:Hid (∃ xr,V.heap[w.heap.size]? = some (.cells xr 77 (0,0))):=by
   obtain ⟨xr,hc⟩:=U HKB
   exact ⟨xr,(xk.block w.heap.size xA).trans hc⟩
  clear hD xp e17 xP hx xk qe vD vK jf
  refine ei fun hR xu=>?_
  go_wp2_with fail
  refine (bX ⟨6,zCm,id,0,c.left,0,0⟩ V (U pn) hn).mono ?_
  rintro e w5 ⟨rfl,⟨qp,qN⟩,hk5,ht5⟩
  have qd:=Y qN
  have kq:=Y (zi (U HKV) hk5)
  have z5:w5.cell? (yq w 0) = some (H id):=(yQ (a:=(yq w 0)) (ht5.block w.heap.size hsV (by omega) (zj (U pn).erow (U HBoX) (by decide)))).trans z3
  clear qN hk5 z3 ht5
  go_wp2_with fail
  refine U xu _ _ ?_
  clear xu
  refine dQ 7 (by kernel_rfl) (by kernel_rfl) ?_
  simp only [yT,List.take_zero,yU,List.drop_zero]
  have z5d:w5.drew.cell? (yq w 0) = some (H id):=z5
  repeat still_step
  refine wpStill_nil ?_
  go_wp2_with fail
  refine (takeFrom_any mb 1 B next id c.left _ l k c w5.drew ((U qd).cells 1 _ rfl) ((U qd).cells 2 _ rfl) (by have:=((U qd).there 2 (by omega)).2; rwa [Nat.zero_add] at this) (U qd).orow (zj (U qd).orow (U qd).box (by decide)) (U qd).lt (yN (U qd).bo (U qd).le) hl (U HPL) (U jQ) (U HC01).1 (Int.le_refl _) (U HC01).2).mono ?_
  rintro e w9 ⟨vw,rfl,hc9,ho9,ht9⟩
  have HE9:=Y (ens_took (zN (U qd) (w':=w5.drew) ⟨rfl,rfl,rfl,Nat.le_refl _,fun _ _=>rfl⟩) hc9 ho9 ht9)
  have HK9:Hid (KeptBut mb B w w9):=zi (kept_drew (U kq)) (cw ht9 (yN (U qd).bo (U qd).le) (fun g' hg'=>((U qd).orow.lt g' hg').1))
  clear hc9 ho9 ht9
  go_wp2_with fail
  go_end0
  exact ⟨rfl,⟨vw,qp,U HE9⟩,U HK9⟩
 ·rintro x xm V i op ⟨f,rfl,xk,hD⟩ xo hx Z xy D
  clear xo
  have xv:=Y xk
  have HD:=Y hD
  have xn:∀ (p:Addr) u,ty.cell? p = some u→V.cell? p = some u:=fun p u hu=>(xk.cell (yK ty _ hu)).trans hu
  have HRV:=Y (zl (U jf) xk tg)
  match i,Z with
  | 0,Z | 6,Z =>
   obtain rfl:=ya Z
   clear D hD xk xn
   rw [if_pos (by rfl)];unfold Oper.wp;go_simp
   exact ⟨upd f _ (I mb 0),by simp [upd],zd (U xv) (U HD) (by decide) (yh rfl)⟩
  | 1,Z =>
   obtain rfl:=ya Z
   have g0:=hD 0 (ye D 0 rfl) _ rfl
   clear D hD xk xn
   rw [if_pos (by rfl)];unfold Oper.wp;go_simp
   exact ⟨upd f 1 (I mb 0),by simp [upd,g0],zd (U xv) (U HD) (by decide) (yh rfl)⟩
  | 2,Z =>
   obtain rfl:=ya Z
   have g1:=hD 1 (ye D 1 rfl) _ rfl
   clear D hD xk xn
   rw [if_pos (by rfl)];unfold Oper.wp;go_simp
   exact ⟨upd f 2 (I mb 0),by simp [upd,g1],zd (U xv) (U HD) (by decide) (yh rfl)⟩
  | 3,Z =>
   obtain rfl:=ya Z
   have g2:=hD 2 (ye D 2 rfl) _ rfl
   clear D hD xk xn
   rw [if_pos (by rfl)];unfold Oper.wp;go_simp
   exact ⟨upd f 3 (I mb 1),by simp [upd,g2],zd (U xv) (U HD) (by decide) (yh rfl)⟩
  | 4,Z =>
   obtain rfl:=ya Z
   have g3:=hD 3 (ye D 3 rfl) _ rfl
   clear D hD xk xn
   rw [if_pos (by rfl)];unfold Oper.wp;go_simp
   exact ⟨upd f 4 (I mb 2),by simp [upd,g3],zd (U xv) (U HD) (by decide) (yh rfl)⟩
  | 5,Z =>
   obtain rfl:=ya Z
   have g4:=hD 4 (ye D 4 rfl) _ rfl
   have z2:=xn (J mb 2) _ (U vD)
   clear D hD xk xn
   rw [if_pos (by rfl)];unfold Oper.wp;go_simp
   exact ⟨upd f 5 (.slice (some (J g 0)) l.length A),by simp [upd,g4],zd (U xv) (U HD) (by decide) (yh rfl)⟩
  | 7,Z =>
   obtain rfl:=ya Z
   have g6:=hD 6 (ye D 6 rfl) _ rfl
   clear D hD xk xn
   rw [if_pos (by rfl)];unfold Oper.wp;go_simp
   exact ⟨upd f 7 (I mb 0),by simp [upd,g6],zd (U xv) (U HD) (by decide) (yh rfl)⟩
  | 8,Z =>
   obtain rfl:=ya Z
   have g7:=hD 7 (ye D 7 rfl) _ rfl
   clear D hD xk xn
   rw [if_pos (by rfl)];unfold Oper.wp;go_simp
   exact ⟨upd f 8 (I mb 0),by simp [upd,g7],zd (U xv) (U HD) (by decide) (yh rfl)⟩
  | 9,Z =>
   obtain rfl:=ya Z
   have g8:=hD 8 (ye D 8 rfl) _ rfl
   clear D hD xk xn
   rw [if_pos (by rfl)];unfold Oper.wp;go_simp
   exact ⟨upd f 9 (I mb 1),by simp [upd,g8],zd (U xv) (U HD) (by decide) (yh rfl)⟩
  | 10,Z =>
   obtain rfl:=ya Z
   have g9:=hD 9 (ye D 9 rfl) _ rfl
   have z1:=xn (J mb 1) _ (U qe)
   have z2:=xn (J mb 2) _ (U vD)
   clear D hD xk xn
   rw [if_pos (by rfl)];unfold Oper.wp;go_simp
   exact ⟨upd f 10 (.agg #[H next,.slice (some (J g 0)) l.length A]),by simp [upd,g9],zd (U xv) (U HD) (by decide) (yh rfl)⟩
  | 11,Z =>
   obtain rfl:=ya Z
   clear D hD xk xn
   rw [if_pos (by rfl)];unfold Oper.wp;go_simp
   exact ⟨upd f 11 (yp w 0),by simp [upd],zd (U xv) (U HD) (by decide) (yh rfl)⟩
  | 12,Z =>
   obtain rfl:=ya Z
   have vF:=hD 11 (ye D 11 rfl) _ rfl
   have z3:=xn (yq w 0) _ (U HK0)
   clear D hD xk xn
   rw [if_pos (by rfl)];unfold Oper.wp;go_simp
   exact ⟨upd f 12 (H id),by simp [upd,vF],zd (U xv) (U HD) (by decide) (yh rfl)⟩
  | 13,Z =>
   obtain rfl:=ya Z
   have qC:=hD 10 (ye D 10 rfl) _ rfl
   have ua:=hD 12 (ye D 12 rfl) _ rfl
   clear D hD xk xn
   rw [if_pos (by rfl)];unfold Oper.wp;go_simp
   refine (dn next _ l id V (U HRV)).mono ?_
   rw [U HPL]
   rintro e w4 ⟨rfl,xC⟩
   exact ⟨upd f 13 (H k),by simp [upd,qC,ua],cS dvE_mono (U xv) (U HD) xC (by decide) (yh rfl)⟩
  | 14,Z =>
   obtain rfl:=ya Z
   have g5:=hD 5 (ye D 5 rfl) _ rfl
   have ku:=hD 13 (ye D 13 rfl) _ rfl
   clear D hD xk xn
   rw [if_pos (by rfl)];unfold Oper.wp;go_simp
   exact ⟨upd f 14 (I g (k * 6)),by simp [upd,g5,ku],zd (U xv) (U HD) (by decide) (yh rfl)⟩
  | 15,Z =>
   obtain rfl:=ya Z
   have kw:=hD 14 (ye D 14 rfl) _ rfl
   clear D hD xk xn
   rw [if_pos (by rfl)];unfold Oper.wp;go_simp
   exact ⟨upd f 15 (I g (k * 6 + 3)),by simp [upd,kw],zd (U xv) (U HD) (by decide) (yh rfl)⟩
  | 16,Z =>
   obtain rfl:=ya Z
   have g15:=hD 15 (ye D 15 rfl) _ rfl
   have z3:=xn (J g (k * 6 + 3)) _ (U vK)
   clear D hD xk xn
   rw [if_pos (by rfl)];unfold Oper.wp;go_simp
   exact ⟨upd f 16 (H c.left),by simp [upd,g15],zd (U xv) (U HD) (by decide) (yh rfl)⟩
  | 17,Z =>
   obtain rfl:=ya Z
   have g16:=hD 16 (ye D 16 rfl) _ rfl
   clear D hD xk xn
   rw [if_pos (by rfl)];unfold Oper.wp;go_simp
   exact ⟨upd f 17 (H c.left),by simp [upd,g16],zd (U xv) (U HD) (by decide) (yh rfl)⟩
  | i + 18,Z=>simp at Z
def ndy (o:Od):Bool:=!(o.life == 1)
theorem fdyF_spec:∀ (l:List Od) (k:Nat),(fdyF l k = -1∧l.filter ndy = l) ∨ ∃ i o,fdyF l k = ((k + i:Nat):Int)∧l[i]? = some o∧o.life = 1∧(l.take i).filter ndy = l.take i
 | [],k=>.inl ⟨rfl,rfl⟩
 | o :: r,k=>by
  by_cases h:o.life = 1
  ·exact .inr ⟨0,o,by rw [fdyF,if_pos h]; rfl,rfl,h,rfl⟩
  ·have hn:ndy o = true:=by simp [ndy,h]
   rcases fdyF_spec r (k + 1) with ⟨Q,N⟩ | ⟨i,o',Q,N,h3,h4⟩
   ·exact .inl ⟨by rw [fdyF,if_neg h,Q],by rw [List.filter_cons_of_pos hn,N]⟩
   ·exact .inr ⟨i + 1,o',by rw [fdyF,if_neg h,Q]; congr 1; omega,N,h3,by rw [yT,List.filter_cons_of_pos hn,h4]⟩
theorem take_day {l:List Od} {j:Nat} {o:Od} (h:l[j]? = some o) (hd:o.life = 1):(l.take (j + 1)).filter ndy = (l.take j).filter ndy:=by
 rw [List.take_add_one,h,List.filter_append]
 simp [ndy,hd]
theorem take_stay {l:List Od} {j:Nat} {o:Od} (h:l[j]? = some o) (hd:o.life ≠ 1):(l.take (j + 1)).filter ndy = (l.take j).filter ndy ++ [o]:=by
 rw [List.take_add_one,h,List.filter_append]
 simp [ndy,hd]
theorem oRow_put {W:World} {B g n A k:Nat} {m:List Od} {c x:Od} (h:ORow W B (.slice (some (J g 0)) n A) m) (hn:m.length = n) (hk:m[k]? = some c) :
  ORow (W.setCells g (k * 6) x.vs) B (.slice (some (J g 0)) n A) (m.set k x)∧W.grownBy (W.setCells g (k * 6) x.vs) (some g):=by
 have kO:=(yG.1 hk).1
 have one:∀ (W:World) (m:List Od) (c d:Od) (j:Nat) (u:Value),ORow W B (.slice (some (J g 0)) n A) m→m.length = n→m[k]? = some c→j < 6→d.vs = c.vs.set j u →
   ORow (W.setCell (J g (k * 6 + j)) u) B (.slice (some (J g 0)) n A) (m.set k d)∧W.grownBy (W.setCell (J g (k * 6 + j)) u) (some g):=by
  intro W m c d j u h hn hk R hd
  subst hn
  have s:=World.ownsRow.stored h (k * 6 + j) u
  refine ⟨?_,s.2⟩
  have e:=flat_set Od.len m k j c d u hk R hd
  show World.ownsRow _ _ _ _ _ (m.set k _).length _
  rw [List.length_set,← e]; exact s.1
 have gs:∀ (m:List Od) (d:Od),m.length = n→k < m.length→(m.set k d)[k]? = some d:=fun m d _ hk=>List.getElem?_set_self hk
 obtain ⟨xi,xs,xt,xl,xf,xg⟩:=x
 obtain ⟨ci,cs,ct,cl,cf,cg⟩:=c
 have a0:=one W m ⟨ci,cs,ct,cl,cf,cg⟩ ⟨xi,cs,ct,cl,cf,cg⟩ 0 (H xi) h hn hk (by omega) rfl
 have a1:=one _ _ ⟨xi,cs,ct,cl,cf,cg⟩ ⟨xi,xs,ct,cl,cf,cg⟩ 1 (H xs) a0.1 (by simp [hn]) (gs m _ hn kO) (by omega) rfl
 rw [List.set_set] at a1
 have a2:=one _ _ ⟨xi,xs,ct,cl,cf,cg⟩ ⟨xi,xs,xt,cl,cf,cg⟩ 2 (H xt) a1.1 (by simp [hn]) (gs m _ hn kO) (by omega) rfl
 rw [List.set_set] at a2
 have a3:=one _ _ ⟨xi,xs,xt,cl,cf,cg⟩ ⟨xi,xs,xt,xl,cf,cg⟩ 3 (H xl) a2.1 (by simp [hn]) (gs m _ hn kO) (by omega) rfl
 rw [List.set_set] at a3
 have a4:=one _ _ ⟨xi,xs,xt,xl,cf,cg⟩ ⟨xi,xs,xt,xl,xf,cg⟩ 4 (H xf) a3.1 (by simp [hn]) (gs m _ hn kO) (by omega) rfl
 rw [List.set_set] at a4
 have a5:=one _ _ ⟨xi,xs,xt,xl,xf,cg⟩ ⟨xi,xs,xt,xl,xf,xg⟩ 5 (yk xg) a4.1 (by simp [hn]) (gs m _ hn kO) (by omega) rfl
 rw [List.set_set] at a5
 exact ⟨a5.1,a0.2.trans (a1.2.trans (a2.2.trans (a3.2.trans (a4.2.trans a5.2))))⟩
theorem clear_rowN {P:Program} (w:World) (T X e:TypeId) (i:TypeInfo) (z:Value) (ht:P.underlying T = some (.slice e)) (hi:P.info? e = some i) (hz:i.zero = some z) (g o m c:Nat) (xr:Array Value) (hg:w.heap[g]? = some (.cells xr e (0,0)))
  (kz:o + (Builtin.zeroCells z.cells (m + 1)).toList.length ≤ xr.size) (Q:∀ v ∈ (Builtin.zeroCells z.cells (m + 1)).toList,v.oneCell' = true) :
  (Builtin.clear_ #[T] X #[.slice (some (J g o)) (m + 1) c]).run P w = .ok (.tuple #[]) (w.setRow g (xr.toList.take o ++ (Builtin.zeroCells z.cells (m + 1)).toList ++ xr.toList.drop (o + (Builtin.zeroCells z.cells (m + 1)).toList.length)).toArray):=by
 have vv:=run_storeCells_at P g o e (Builtin.zeroCells z.cells (m + 1)).toList 0 xr w hg (by simpa using kz) Q
 simp only [Nat.add_zero] at vv
 simp [Builtin.clear_,run_underlying ht,zeroValue,typeInfo,hi,hz,vv]
theorem zero_len (m:Nat):(Builtin.zeroCells (Value.cells (.agg (yv 0 0 0 0 0 ⟨#[]⟩).toArray)) m).toList.length = m * 6:=by
 simp [Builtin.zeroCells,Value.cells]
theorem zero_one (m:Nat):∀ v ∈ (Builtin.zeroCells (Value.cells (.agg (yv 0 0 0 0 0 ⟨#[]⟩).toArray)) m).toList,v.oneCell' = true:=by
 intro v hv
 simp only [Builtin.zeroCells,Value.cells,Array.toList_map,List.mem_map] at hv
 obtain ⟨i,_,rfl⟩:=hv
 show ((yv 0 0 0 0 0 ⟨#[]⟩).toArray[i % 6]!).oneCell' = true
 rcases (by omega:i % 6 = 0 ∨ i % 6 = 1 ∨ i % 6 = 2 ∨ i % 6 = 3 ∨ i % 6 = 4 ∨ i % 6 = 5) with e | e | e | e | e | e <;> rw [e] <;> rfl
theorem drop_eq {l m:List Od} {j:Nat} (h:m.drop j = l.drop j):m[j]? = l[j]?:=by
 have:=congrArg (·[0]?) h
 simpa using this
theorem drop_more {l m:List Od} {j:Nat} (h:m.drop j = l.drop j):m.drop (j + 1) = l.drop (j + 1):=by
 have:=congrArg (List.drop 1) h
 simpa using this
theorem deleteDay_any (g A B:Nat) (l:List Od) (w:World) (hn:l.length ≤ 1000) (Z:ORow w B (.slice (some (J g 0)) l.length A) l) :
  Calls Tryz.prog 61 #[.slice (some (J g 0)) l.length A,.func (.func 60) #[] #[]] w fun e w'=>e = ym (.slice (some (J g 0)) (l.filter ndy).length A)∧ORow w' B (.slice (some (J g 0)) (l.filter ndy).length A) (l.filter ndy)∧w.grownBy w' (some g):=by
 obtain ⟨i0,uE,uA,uC,uM⟩:=info_parts Tryz.infoOrder
 have HO:=Y Z
 have hgw:g < w.heap.size:=(Z.lt g rfl).2
 clear Z
 go_enter Tryz.func61,Tryz.ntmps61
 go_wp2_with fail
 refine (indexDay_any _ l w (zK (U HO) (by omega))).mono ?_
 rcases fdyF_spec l 0 with ⟨Q,N⟩ | ⟨i,o,Q,N,h3,h4⟩
 ·have hf:fdy l = -1:=Q
  rw [hf]
  rintro e w2 ⟨rfl,xZ⟩
  have vW:=Y (zk (U HO) xZ)
  have uL:Hid (w.grownBy w2 (some g)):=zX xZ tg
  have HF:=Y N
  clear xZ Q N hf
  go_wp2_with fail
  go_ret
  rw [U HF]
  exact ⟨rfl,U vW,U uL⟩
 ·have hf:fdy l = (i:Int):=by rw [fdy,Q]; congr 1; omega
  rw [hf]
  rintro e w2 ⟨rfl,xZ⟩
  have hil:=(yG.1 N).1
  have uI:Hid (∃ m:List Od,m.length = l.length∧ORow w2 B (.slice (some (J g 0)) l.length A) m∧m.take i = (l.take (i + 1)).filter ndy∧m.drop (i + 1) = l.drop (i + 1)∧w.grownBy w2 (some g)):=⟨l,rfl,zk (U HO) xZ,by rw [take_day N h3,h4],rfl,zX xZ tg⟩
  have HIL:Hid (((l.take (i + 1)).filter ndy).length = i):=by show _ = _; rw [take_day N h3,h4,List.length_take]; omega
  have pd:(i:Int) ≠ -1:=by omega
  have hi1':((i:Int) == -1) = false:=by rw [xd]; exact pd
  clear xZ Q N h3 h4 hf
  go_wp2_with fail
  go_loopw [5,6] (fun iv jv wr=>∃ (k j:Nat) (m:List Od),j ≤ l.length∧k < j∧iv = H k∧jv = H j∧Hid (m.length = l.length∧ORow wr B (.slice (some (J g 0)) l.length A) m∧m.take k = (l.take j).filter ndy∧((l.take j).filter ndy).length = k∧m.drop j = l.drop j∧w.grownBy wr (some g))) (fun _ jv _=>l.length - (intOf jv).toNat)
  case atStart =>
   obtain ⟨m,a1,a2,a3,a4,a5⟩:=U uI
   exact ⟨i,i + 1,m,by omega,by omega,rfl,by go_num,⟨a1,a2,a3,U HIL,a4,a5⟩⟩
  case round =>
   obtain ⟨k,j,m,R,hkj,rfl,rfl,uu⟩:=hrel
   obtain ⟨a1,a2,a3,a4,a5,a6⟩:=U uu
   by_cases xK:j < l.length
   ·obtain ⟨o,hjo⟩:∃ o,l[j]? = some o:=⟨_,yH xK⟩
    have hmo:m[j]? = some o:=(drop_eq a5).trans hjo
    obtain ⟨c,vd⟩:∃ c,m[k]? = some c:=⟨_,yH (by omega)⟩
    obtain ⟨g0,g1,g2,g3,g4,g5⟩:=zC (row_hereE a2 (by omega) hmo).1
    have uv:(j:Int) < l.length:=by omega
    have jd:(0:Int) ≤ j:=by omega
    have ub:g < wr.heap.size:=(a2.lt g rfl).2
    have HJO:=Y hjo
    have jP:=Y vd
    have qZ:=ed wr (E (yv o.id o.side o.ticks o.left o.life o.tag).toArray 66)
    have uB:=Y qZ
    have HBR:Hid (World.rangeAt (wr.alloc (E (yv o.id o.side o.ticks o.left o.life o.tag).toArray 66)) wr.heap.size 0 o.vs):=zg wr o.vs _
    have hsx:wr.heap.size < (wr.alloc (E (yv o.id o.side o.ticks o.left o.life o.tag).toArray 66)).heap.size:=by rw [ze]; omega
    clear hjo hmo vd qZ a1 a2 a3 a4 a5 a6
    go_wp2_with fail
    generalize (wr.alloc (E (yv o.id o.side o.ticks o.left o.life o.tag).toArray 66)) = yb at uB HBR hsx ⊢
    refine (dT o yb).mono ?_
    rintro e w3 ⟨rfl,uH⟩
    have xT:=Y (eh (U uB) uH)
    have oY:=zb (U HBR) uH hsx
    obtain ⟨x0,x1,x2,x3,x4,x5⟩:=yC oY
    clear uH oY g0 g1 g2 g3 g4 g5
    obtain ⟨a1,a2,a3,a4,a5,a6⟩:=U uu
    have a2':=zk a2 (U xT)
    have HA2:=Y a2'
    have vK:Hid (w.grownBy w3 (some g)):=a6.trans (zX (U xT) tg)
    have HA:Hid (m.length = l.length∧m.take k = (l.take j).filter ndy∧((l.take j).filter ndy).length = k∧m.drop j = l.drop j):=⟨a1,a3,a4,a5⟩
    have hck:=row_hereE a2' (by omega) (U jP)
    by_cases hd:o.life = 1
    ·have L:(o.life == 1) = true:=by simpa using hd
     have HN:Hid (m.length = l.length∧ORow w3 B (.slice (some (J g 0)) l.length A) m∧m.take k = (l.take (j + 1)).filter ndy∧((l.take (j + 1)).filter ndy).length = k∧m.drop (j + 1) = l.drop (j + 1)∧w.grownBy w3 (some g)):=by
      rw [take_day (U HJO) hd]
      exact ⟨a1,a2',a3,a4,drop_more a5,U vK⟩
     clear hd a1 a2 a3 a4 a5 a6 a2' hck
     go_wp2_with fail
     go_roundw
     case rel=>exact ⟨k,j + 1,m,by omega,by omega,rfl,by go_num,U HN⟩
     case measure=>simp [intOf]; omega
    ·have L:(o.life == 1) = false:=by rw [xd]; exact hd
     have hput:=oRow_put (x:=o) a2' a1 (U jP)
     have HN:Hid ((m.set k o).length = l.length∧ORow (w3.setCells g (k * 6) o.vs) B (.slice (some (J g 0)) l.length A) (m.set k o)∧(m.set k o).take (k + 1) = (l.take (j + 1)).filter ndy∧((l.take (j + 1)).filter ndy).length = k + 1∧(m.set k o).drop (j + 1) = l.drop (j + 1)∧w.grownBy (w3.setCells g (k * 6) o.vs) (some g)):=by
      rw [take_stay (U HJO) hd]
      refine ⟨by rw [List.length_set]; exact a1,hput.1,?_,by rw [yP,a4]; rfl,?_,(U vK).trans hput.2⟩
      ·rw [List.take_add_one,List.getElem?_set_self (by omega),List.take_set_of_le tg,a3]; rfl
      ·rw [List.drop_set_of_lt (by omega)]; exact drop_more a5
     obtain ⟨p0,p1,p2,p3,p4,p5⟩:=zC hck.1
     have q0:w3.frozen? (J g (k * 6)) = false:=hck.2 0 (by omega)
     have q1:w3.frozen? (J g (k * 6 + 1)) = false:=hck.2 1 (by omega)
     have q2:w3.frozen? (J g (k * 6 + 2)) = false:=hck.2 2 (by omega)
     have q3:w3.frozen? (J g (k * 6 + 3)) = false:=hck.2 3 (by omega)
     have q4:w3.frozen? (J g (k * 6 + 4)) = false:=hck.2 4 (by omega)
     have q5:w3.frozen? (J g (k * 6 + 5)) = false:=hck.2 5 (by omega)
     have kO:(k:Int) < l.length:=by omega
     have hk0:(0:Int) ≤ k:=by omega
     clear hd a1 a2 a3 a4 a5 a6 a2' hck hput
     go_wp2_with fail
     go_roundw
     case rel=>exact ⟨k + 1,j + 1,m.set k o,by omega,by omega,by go_num,by go_num,U HN⟩
     case measure=>simp [intOf]; omega
   ·obtain rfl:j = l.length:=by omega
    rw [yZ tg] at a3 a4
    obtain ⟨mm,hmm⟩:∃ mm,l.length - k = mm + 1:=⟨l.length - k - 1,by omega⟩
    rcases a2.2 with ⟨hbad,_⟩ | ⟨g',pw,xr,hv,hBg,kM,vY,hmx,jJ,oT⟩
    ·cases hbad
    simp only [Value.slice.injEq,Option.some.injEq,Addr.mk.injEq,and_true] at hv
    obtain ⟨rfl,-,rfl⟩:=hv
    have hzl:=zero_len (mm + 1)
    have kz:k * 6 + (mm + 1) * 6 ≤ xr.size:=by rw [jJ]; omega
    have xo:∀ (X:TypeId) (c:Nat),(Builtin.clear_ #[29] X #[.slice (some (J g (k * 6))) (l.length - k) c]).run Tryz.prog wr = .ok (.tuple #[]) (wr.setRow g (xr.toList.take (k * 6) ++ (Builtin.zeroCells (Value.cells (.agg (yv 0 0 0 0 0 ⟨#[]⟩).toArray)) (mm + 1)).toList ++ xr.toList.drop (k * 6 + (mm + 1) * 6)).toArray):=fun X c=>by
     rw [hmm]
     have:=clear_rowN wr 29 X 66 i0 _ Tryz.underlying29 uE uA g (k * 6) mm c xr kM (by rw [hzl]; exact kz) (zero_one _)
     rw [hzl] at this
     exact this
    generalize hZ:(Builtin.zeroCells (Value.cells (.agg (yv 0 0 0 0 0 ⟨#[]⟩).toArray)) (mm + 1)).toList = ho at hzl xo
    have hl2:(xr.toList.take (k * 6) ++ ho ++ xr.toList.drop (k * 6 + (mm + 1) * 6)).length = A * 6:=by
     have xo:xr.toList.length = A * 6:=by simpa using jJ
     rw [yP,yP,hzl,List.length_take,List.length_drop,xo]; rw [jJ] at kz; omega
    have jo:(xr.toList.take (k * 6) ++ ho ++ xr.toList.drop (k * 6 + (mm + 1) * 6)).take (k * 6) = (l.filter ndy).flatMap Od.vs:=by
     have xo:xr.toList.length = A * 6:=by simpa using jJ
     have vd:(xr.toList.take (k * 6)).length = k * 6:=by rw [List.length_take,xo]; rw [jJ] at kz; omega
     rw [List.append_assoc,List.take_append_of_le_length (by omega),yZ (by omega)]
     have h:=congrArg (List.take (k * 6)) oT
     rw [List.take_take,show min (k * 6) (m.length * 6) = k * 6 by omega] at h
     rw [h,← a3]
     conv=>lhs; rw [← List.take_append_drop k m,List.flatMap_append]
     rw [List.take_append_of_le_length (by rw [zH Od.len,List.length_take]; omega),yZ (by rw [zH Od.len,List.length_take]; omega)]
    have HX2:=Y (setRow_heap wr g xr (xr.toList.take (k * 6) ++ ho ++ xr.toList.drop (k * 6 + (mm + 1) * 6)).toArray 66 (0,0) kM)
    have uL:Hid (w.grownBy (wr.setRow g (xr.toList.take (k * 6) ++ ho ++ xr.toList.drop (k * 6 + (mm + 1) * 6)).toArray) (some g)):=a6.trans ⟨rfl,rfl,rfl,by simp,fun q hq xB=>setRow_other wr g q _ (fun e=>xB (by rw [e]))⟩
    generalize (xr.toList.take (k * 6) ++ ho ++ xr.toList.drop (k * 6 + (mm + 1) * 6)) = C2 at hl2 jo xo HX2 uL
    have pY:=Y a4
    have HL2:=Y hl2
    have vE:=Y jo
    have HMM:=Y hmm
    have k1:¬ A = k:=by omega
    have k2:(k:Int) ≤ l.length:=by omega
    have k3:(0:Int) ≤ k:=by omega
    have k4:(l.length:Int) ≤ A:=by omega
    have k5:(k:Int) ≤ A:=by omega
    have k6:¬ (l.length:Int) < l.length:=by omega
    have HB:=Y (And.intro hBg (And.intro hmx vY))
    clear hzl hZ hl2 jo hmm kz oT jJ kM a1 a2 a3 a4 a5 a6 xK R uu uI HIL
    go_wp2_with fail
    go_ret
    have e:=U pY
    refine ⟨by rw [e]; rfl,⟨by rw [zH Od.len],.inr ⟨g,A,C2.toArray,by rw [e],(U HB).1,U HX2,by rw [e]; omega,(U HB).2.1,by simpa using U HL2,by rw [e]; simpa using U vE⟩⟩,U uL⟩
end Go.Proofs.YtdliebbfcmdmaaaGreat
