/-
  An order cancelled by the engine: proved by walking the method.
-/
import Derived.Test.YtbakanofkghmiaaGreatPj27
set_option linter.unusedVariables false
set_option maxHeartbeats 6400000
set_option maxRecDepth 100000
namespace Go.Proofs.YtbakanofkghmiaaGreat
open Go.RowKit
def DVE (vs:List Value) (p:Prop) (W:World) (j:Nat) (v:Value):Prop:=∀ u,vs[j]? = some u→v = u
theorem dvE_mono {vs:List Value}:∀ p W W' j v,yl W W'→DVE vs p W j v→DVE vs p W' j v:=fun _ _ _ _ _ _ h=>h
theorem cancelE_any {N B Bo:Nat} {gv:Value} {gs:List Value} {gl:List (List Ev)} {next:Int} {vq:Value} {l:List Od} {t:Tot} {vo:Value} {ts:List Ev} (id:Int) (k:Nat) (c:Od) (w:World) (h:EnS N B Bo w gv gs gl next vq l t vo ts) (hl:l.length ≤ 1000) (hn:ts.length ≤ 1000) (hk:plc l id = k) (hc:l[k]? = some c) (px:0 ≤ c.left) (jq:c.left ≤ 1000000) :
  Calls Tryz.prog 68 #[I N 0,.agg #[H id]] w fun r w'=>r = yk (.tuple #[])∧(∃ uV qh,EnS N B Bo w' gv gs gl next uV (zR l k c c.left) t qh (ts ++ [⟨6,zCm,id,0,c.left,0,0⟩]))∧KeptBut N B w w':=by
 have xA:l ≠ []:=by rintro rfl; simp at hc
 have jZ:=(yD.1 hc).1
 obtain ⟨g,F,rfl,vR,hBg,hgw⟩:=dt h.orow xA
 have qr:=h.lt
 have oL:B ≤ w.heap.size:=yK h.bo h.le
 have xR:=eD w (E #[H id] 115)
 have HE:=Q (zS h xR)
 have xT:=Q xR
 have xz:w.heap.size < (w.alloc (E #[H id] 115)).heap.size:=by rw [ze]; omega
 have HKR:Hid (World.rangeAt (w.alloc (E #[H id] 115)) w.heap.size 0 [H id]):=zg w [H id] _
 have HKB:Hid (∃ xp,(w.alloc (E #[H id] 115)).heap[w.heap.size]? = some (.cells xp 115 (0,0))):=⟨_,heap_alloc_new w _⟩
 have HPL:=Q hk
 have kz:=Q hc
 have HC01:Hid (0 ≤ c.left∧c.left ≤ 1000000):=⟨px,jq⟩
 clear h xR hk hc xA px jq
 go_enter Tryz.func68,Tryz.ntmps68
 refine eH fun h2 xu=>?_
 go_wp2_with fail
 refine M xu _ _ ?_
 clear xu
 generalize (w.alloc (E #[H id] 115)) = qt at HE xT xz HKR HKB ⊢
 have hgX:g < qt.heap.size:=by omega
 have kV:N < qt.heap.size:=by omega
 have qa:Hid (qt.cell? (J N 1) = some (H next)):=(M HE).cells 1 _ rfl
 have vv:Hid (qt.cell? (J N 2) = some (.slice (some (J g 0)) l.length F)):=(M HE).cells 2 _ rfl
 have HK0:Hid (qt.cell? (yn w 0) = some (H id)):=M HKR 0 _ rfl
 have qC:=Q (zT (M HE).orow (by omega))
 have vJ:Hid (qt.cell? (J g (k * 6 + 3)) = some (H c.left)):=(row_hereE (M HE).orow hl (M kz)).1 3 _ rfl
 have hkl':(k:Int) < l.length:=by omega
 have hk0:(0:Int) ≤ k:=by omega
 refine eH fun h2 xu=>?_
 refine zi (RG qt (fun f=>{ tmps:=#[I N 0,.agg #[H id],Z,ym w 0,f 17,f 0,f 1,f 2,f 3,f 4,f 5,f 6,f 7,f 8,f 9,f 10,f 11,f 12,f 13,f 14,f 15,f 16,Z,Z,Z,Z,Z,Z,Z,Z,Z,Z,Z,Z,Z,Z],defers:=[] }) 99 (DVE [I N 0,I N 0,I N 0,I N 1,I N 2,.slice (some (J g 0)) l.length F,I N 0,I N 0,I N 0,I N 1,.agg #[H next,.slice (some (J g 0)) l.length F],ym w 0,H id,H k,I g (k * 6),I g (k * 6 + 3),H c.left,H c.left])) (by kernel_rfl) ?_ ?_ ?_
 ·exact ⟨fun _=>Z,rfl,⟨rfl,rfl,rfl,Nat.le_refl _,fun _ _=>rfl⟩,fun j L=>by rw [yF] at L; split at L <;> simp at L⟩
 ·rintro x hR V ⟨f,rfl,xe,U⟩ hx xK
  have xm:=aK xK hx (acyc _ (by kernel_rfl))
  have e17:f 17 = H c.left:=U 17 (xm 17 (by simp)) _ rfl
  refine M xu _ _ ?_
  clear xu
  simp only [e17]
  generalize f 0 = v0,f 1 = v1,f 2 = v2,f 3 = v3,f 4 = v4,f 5 = v5,f 6 = v6,f 7 = v7,f 8 = v8,f 9 = v9,f 10 = v10,f 11 = v11,f 12 = v12,f 13 = v13,f 14 = v14,f 15 = v15,f 16 = v16
  have pd:=Q (zS (M HE) xe)
  have HKV:Hid (KeptBut N B w V):=zk (zC (M xT) oL) (zC xe (by omega))
  have z3:V.cell? (yn w 0) = some (H id):=(xe.cell (p:=(yn w 0)) xz).trans (M HK0)
  have hsV:w.heap.size < V.heap.size:=yG xz xe.size
  have HBoX:Hid (∃ xp,V.heap[w.heap.size]? = some (.cells xp 115 (0,0))):=by
   obtain ⟨xp,hc⟩:=M HKB
   exact ⟨xp,(xe.block w.heap.size xz).trans hc⟩
  clear U xm e17 xK hx xe qa vv vJ qC
  refine eH fun h2 xu=>?_
  go_wp2_with fail
  refine (cB ⟨6,zCm,id,0,c.left,0,0⟩ V (M pd) hn).mono ?_
  rintro e w5 ⟨rfl,⟨qh,qq⟩,ox,ht5⟩
  have vN:=Q qq
  have ky:=Q (zk (M HKV) ox)
  have z5:w5.cell? (yn w 0) = some (H id):=(yN (a:=(yn w 0)) (ht5.block w.heap.size hsV (by omega) (zo (M pd).erow (M HBoX) (by decide)))).trans z3
  clear qq ox z3 ht5
  go_wp2_with fail
  refine M xu _ _ ?_
  clear xu
  refine ek 7 (by kernel_rfl) (by kernel_rfl) ?_
  simp only [yQ,List.take_zero,yR,List.drop_zero]
  have z5d:w5.drew.cell? (yn w 0) = some (H id):=z5
  repeat still_step
  refine wpStill_nil ?_
  go_wp2_with fail
  refine (takeFrom_any N 1 B next id c.left _ l k c w5.drew ((M vN).cells 1 _ rfl) ((M vN).cells 2 _ rfl) (by have:=((M vN).there 2 (by omega)).2; rwa [Nat.zero_add] at this) (M vN).orow (zo (M vN).orow (M vN).box (by decide)) (M vN).lt (yK (M vN).bo (M vN).le) hl (M HPL) (M kz) (M HC01).1 (Int.le_refl _) (M HC01).2).mono ?_
  rintro e w9 ⟨uV,rfl,hc9,ho9,ht9⟩
  have HE9:=Q (ens_took (zS (M vN) (w':=w5.drew) ⟨rfl,rfl,rfl,Nat.le_refl _,fun _ _=>rfl⟩) hc9 ho9 ht9)
  have HK9:Hid (KeptBut N B w w9):=zk (kept_drew (M ky)) (cK ht9 (yK (M vN).bo (M vN).le) (fun g' hg'=>((M vN).orow.lt g' hg').1))
  clear hc9 ho9 ht9
  go_wp2_with fail
  go_end0
  exact ⟨rfl,⟨uV,qh,M HE9⟩,M HK9⟩
 ·rintro x hR V i op ⟨f,rfl,xe,U⟩ xk hx Y xq D
  clear xk
  have xo:=Q xe
  have HD:=Q U
  have xj:∀ (p:Addr) u,qt.cell? p = some u→V.cell? p = some u:=fun p u hu=>(xe.cell (yH qt _ hu)).trans hu
  have oJ:=Q (zh (M qC) xe tg)
  match i,Y with
  | 0,Y | 6,Y =>
   obtain rfl:=hD Y
   clear D U xe xj
   rw [if_pos (by rfl)];unfold Oper.wp;go_simp
   exact ⟨upd f _ (I N 0),by simp [upd],zc (M xo) (M HD) (by decide) (ye rfl)⟩
  | 1,Y =>
   obtain rfl:=hD Y
   have g0:=U 0 (yc D 0 rfl) _ rfl
   clear D U xe xj
   rw [if_pos (by rfl)];unfold Oper.wp;go_simp
   exact ⟨upd f 1 (I N 0),by simp [upd,g0],zc (M xo) (M HD) (by decide) (ye rfl)⟩
  | 2,Y =>
   obtain rfl:=hD Y
   have g1:=U 1 (yc D 1 rfl) _ rfl
   clear D U xe xj
   rw [if_pos (by rfl)];unfold Oper.wp;go_simp
   exact ⟨upd f 2 (I N 0),by simp [upd,g1],zc (M xo) (M HD) (by decide) (ye rfl)⟩
  | 3,Y =>
   obtain rfl:=hD Y
   have g2:=U 2 (yc D 2 rfl) _ rfl
   clear D U xe xj
   rw [if_pos (by rfl)];unfold Oper.wp;go_simp
   exact ⟨upd f 3 (I N 1),by simp [upd,g2],zc (M xo) (M HD) (by decide) (ye rfl)⟩
  | 4,Y =>
   obtain rfl:=hD Y
   have g3:=U 3 (yc D 3 rfl) _ rfl
   clear D U xe xj
   rw [if_pos (by rfl)];unfold Oper.wp;go_simp
   exact ⟨upd f 4 (I N 2),by simp [upd,g3],zc (M xo) (M HD) (by decide) (ye rfl)⟩
  | 5,Y =>
   obtain rfl:=hD Y
   have g4:=U 4 (yc D 4 rfl) _ rfl
   have z2:=xj (J N 2) _ (M vv)
   clear D U xe xj
   rw [if_pos (by rfl)];unfold Oper.wp;go_simp
   exact ⟨upd f 5 (.slice (some (J g 0)) l.length F),by simp [upd,g4],zc (M xo) (M HD) (by decide) (ye rfl)⟩
  | 7,Y =>
   obtain rfl:=hD Y
   have g6:=U 6 (yc D 6 rfl) _ rfl
   clear D U xe xj
   rw [if_pos (by rfl)];unfold Oper.wp;go_simp
   exact ⟨upd f 7 (I N 0),by simp [upd,g6],zc (M xo) (M HD) (by decide) (ye rfl)⟩
  | 8,Y =>
   obtain rfl:=hD Y
   have g7:=U 7 (yc D 7 rfl) _ rfl
   clear D U xe xj
   rw [if_pos (by rfl)];unfold Oper.wp;go_simp
   exact ⟨upd f 8 (I N 0),by simp [upd,g7],zc (M xo) (M HD) (by decide) (ye rfl)⟩
  | 9,Y =>
   obtain rfl:=hD Y
   have g8:=U 8 (yc D 8 rfl) _ rfl
   clear D U xe xj
   rw [if_pos (by rfl)];unfold Oper.wp;go_simp
   exact ⟨upd f 9 (I N 1),by simp [upd,g8],zc (M xo) (M HD) (by decide) (ye rfl)⟩
  | 10,Y =>
   obtain rfl:=hD Y
   have g9:=U 9 (yc D 9 rfl) _ rfl
   have z1:=xj (J N 1) _ (M qa)
   have z2:=xj (J N 2) _ (M vv)
   clear D U xe xj
   rw [if_pos (by rfl)];unfold Oper.wp;go_simp
   exact ⟨upd f 10 (.agg #[H next,.slice (some (J g 0)) l.length F]),by simp [upd,g9],zc (M xo) (M HD) (by decide) (ye rfl)⟩
  | 11,Y =>
   obtain rfl:=hD Y
   clear D U xe xj
   rw [if_pos (by rfl)];unfold Oper.wp;go_simp
   exact ⟨upd f 11 (ym w 0),by simp [upd],zc (M xo) (M HD) (by decide) (ye rfl)⟩
  | 12,Y =>
   obtain rfl:=hD Y
   have vr:=U 11 (yc D 11 rfl) _ rfl
   have z3:=xj (yn w 0) _ (M HK0)
   clear D U xe xj
   rw [if_pos (by rfl)];unfold Oper.wp;go_simp
   exact ⟨upd f 12 (H id),by simp [upd,vr],zc (M xo) (M HD) (by decide) (ye rfl)⟩
  | 13,Y =>
   obtain rfl:=hD Y
   have vP:=U 10 (yc D 10 rfl) _ rfl
   have xX:=U 12 (yc D 12 rfl) _ rfl
   clear D U xe xj
   rw [if_pos (by rfl)];unfold Oper.wp;go_simp
   refine (dJ next _ l id V (M oJ)).mono ?_
   rw [M HPL]
   rintro e w4 ⟨rfl,xy⟩
   exact ⟨upd f 13 (H k),by simp [upd,vP,xX],bP dvE_mono (M xo) (M HD) xy (by decide) (ye rfl)⟩
  | 14,Y =>
   obtain rfl:=hD Y
   have g5:=U 5 (yc D 5 rfl) _ rfl
   have kE:=U 13 (yc D 13 rfl) _ rfl
   clear D U xe xj
   rw [if_pos (by rfl)];unfold Oper.wp;go_simp
   exact ⟨upd f 14 (I g (k * 6)),by simp [upd,g5,kE],zc (M xo) (M HD) (by decide) (ye rfl)⟩
  | 15,Y =>
   obtain rfl:=hD Y
   have jU:=U 14 (yc D 14 rfl) _ rfl
   clear D U xe xj
   rw [if_pos (by rfl)];unfold Oper.wp;go_simp
   exact ⟨upd f 15 (I g (k * 6 + 3)),by simp [upd,jU],zc (M xo) (M HD) (by decide) (ye rfl)⟩
  | 16,Y =>
   obtain rfl:=hD Y
   have g15:=U 15 (yc D 15 rfl) _ rfl
   have z3:=xj (J g (k * 6 + 3)) _ (M vJ)
   clear D U xe xj
   rw [if_pos (by rfl)];unfold Oper.wp;go_simp
   exact ⟨upd f 16 (H c.left),by simp [upd,g15],zc (M xo) (M HD) (by decide) (ye rfl)⟩
  | 17,Y =>
   obtain rfl:=hD Y
   have g16:=U 16 (yc D 16 rfl) _ rfl
   clear D U xe xj
   rw [if_pos (by rfl)];unfold Oper.wp;go_simp
   exact ⟨upd f 17 (H c.left),by simp [upd,g16],zc (M xo) (M HD) (by decide) (ye rfl)⟩
  | i + 18,Y=>simp at Y
def ndy (o:Od):Bool:=!(o.life == 1)
theorem fdyF_spec:∀ (l:List Od) (k:Nat),(fdyF l k = -1∧l.filter ndy = l) ∨ ∃ i o,fdyF l k = ((k + i:Nat):Int)∧l[i]? = some o∧o.life = 1∧(l.take i).filter ndy = l.take i
 | [],k=>.inl ⟨rfl,rfl⟩
 | o :: r,k=>by
  by_cases h:o.life = 1
  ·exact .inr ⟨0,o,by rw [fdyF,if_pos h]; rfl,rfl,h,rfl⟩
  ·have hn:ndy o = true:=by simp [ndy,h]
   rcases fdyF_spec r (k + 1) with ⟨z,K⟩ | ⟨i,o',z,K,h3,h4⟩
   ·exact .inl ⟨by rw [fdyF,if_neg h,z],by rw [List.filter_cons_of_pos hn,K]⟩
   ·exact .inr ⟨i + 1,o',by rw [fdyF,if_neg h,z]; congr 1; omega,K,h3,by rw [yQ,List.filter_cons_of_pos hn,h4]⟩
theorem take_day {l:List Od} {j:Nat} {o:Od} (h:l[j]? = some o) (hd:o.life = 1):(l.take (j + 1)).filter ndy = (l.take j).filter ndy:=by
 rw [List.take_add_one,h,List.filter_append]
 simp [ndy,hd]
theorem take_stay {l:List Od} {j:Nat} {o:Od} (h:l[j]? = some o) (hd:o.life ≠ 1):(l.take (j + 1)).filter ndy = (l.take j).filter ndy ++ [o]:=by
 rw [List.take_add_one,h,List.filter_append]
 simp [ndy,hd]
theorem oRow_put {W:World} {B g n F k:Nat} {m:List Od} {c x:Od} (h:ORow W B (.slice (some (J g 0)) n F) m) (hn:m.length = n) (hk:m[k]? = some c) :
  ORow (W.setCells g (k * 6) x.vs) B (.slice (some (J g 0)) n F) (m.set k x)∧W.grownBy (W.setCells g (k * 6) x.vs) (some g):=by
 have jZ:=(yD.1 hk).1
 have one:∀ (W:World) (m:List Od) (c d:Od) (j:Nat) (u:Value),ORow W B (.slice (some (J g 0)) n F) m→m.length = n→m[k]? = some c→j < 6→d.vs = c.vs.set j u →
   ORow (W.setCell (J g (k * 6 + j)) u) B (.slice (some (J g 0)) n F) (m.set k d)∧W.grownBy (W.setCell (J g (k * 6 + j)) u) (some g):=by
  intro W m c d j u h hn hk L hd
  subst hn
  have s:=World.ownsRow.stored h (k * 6 + j) u
  refine ⟨?_,s.2⟩
  have e:=flat_set Od.len m k j c d u hk L hd
  show World.ownsRow _ _ _ _ _ (m.set k _).length _
  rw [List.length_set,← e]; exact s.1
 have gs:∀ (m:List Od) (d:Od),m.length = n→k < m.length→(m.set k d)[k]? = some d:=fun m d _ hk=>List.getElem?_set_self hk
 obtain ⟨xi,xs,xt,xl,xf,xg⟩:=x
 obtain ⟨ci,cs,ct,cl,cf,cg⟩:=c
 have a0:=one W m ⟨ci,cs,ct,cl,cf,cg⟩ ⟨xi,cs,ct,cl,cf,cg⟩ 0 (H xi) h hn hk (by omega) rfl
 have a1:=one _ _ ⟨xi,cs,ct,cl,cf,cg⟩ ⟨xi,xs,ct,cl,cf,cg⟩ 1 (H xs) a0.1 (by simp [hn]) (gs m _ hn jZ) (by omega) rfl
 rw [List.set_set] at a1
 have a2:=one _ _ ⟨xi,xs,ct,cl,cf,cg⟩ ⟨xi,xs,xt,cl,cf,cg⟩ 2 (H xt) a1.1 (by simp [hn]) (gs m _ hn jZ) (by omega) rfl
 rw [List.set_set] at a2
 have a3:=one _ _ ⟨xi,xs,xt,cl,cf,cg⟩ ⟨xi,xs,xt,xl,cf,cg⟩ 3 (H xl) a2.1 (by simp [hn]) (gs m _ hn jZ) (by omega) rfl
 rw [List.set_set] at a3
 have a4:=one _ _ ⟨xi,xs,xt,xl,cf,cg⟩ ⟨xi,xs,xt,xl,xf,cg⟩ 4 (H xf) a3.1 (by simp [hn]) (gs m _ hn jZ) (by omega) rfl
 rw [List.set_set] at a4
 have a5:=one _ _ ⟨xi,xs,xt,xl,xf,cg⟩ ⟨xi,xs,xt,xl,xf,xg⟩ 5 (yi xg) a4.1 (by simp [hn]) (gs m _ hn jZ) (by omega) rfl
 rw [List.set_set] at a5
 exact ⟨a5.1,a0.2.trans (a1.2.trans (a2.2.trans (a3.2.trans (a4.2.trans a5.2))))⟩
theorem clear_rowN {P:Program} (w:World) (T ty e:TypeId) (i:TypeInfo) (h1:Value) (ht:P.underlying T = some (.slice e)) (hi:P.info? e = some i) (hz:i.zero = some h1) (g o m c:Nat) (xp:Array Value) (hg:w.heap[g]? = some (.cells xp e (0,0)))
  (jY:o + (Builtin.zeroCells h1.cells (m + 1)).toList.length ≤ xp.size) (z:∀ v ∈ (Builtin.zeroCells h1.cells (m + 1)).toList,v.oneCell' = true) :
  (Builtin.clear_ #[T] ty #[.slice (some (J g o)) (m + 1) c]).run P w = .ok (.tuple #[]) (w.setRow g (xp.toList.take o ++ (Builtin.zeroCells h1.cells (m + 1)).toList ++ xp.toList.drop (o + (Builtin.zeroCells h1.cells (m + 1)).toList.length)).toArray):=by
 have uH:=run_storeCells_at P g o e (Builtin.zeroCells h1.cells (m + 1)).toList 0 xp w hg (by simpa using jY) z
 simp only [Nat.add_zero] at uH
 simp [Builtin.clear_,run_underlying ht,zeroValue,typeInfo,hi,hz,uH]
theorem zero_len (m:Nat):(Builtin.zeroCells (Value.cells (.agg (yt 0 0 0 0 0 ⟨#[]⟩).toArray)) m).toList.length = m * 6:=by
 simp [Builtin.zeroCells,Value.cells]
theorem zero_one (m:Nat):∀ v ∈ (Builtin.zeroCells (Value.cells (.agg (yt 0 0 0 0 0 ⟨#[]⟩).toArray)) m).toList,v.oneCell' = true:=by
 intro v hv
 simp only [Builtin.zeroCells,Value.cells,Array.toList_map,List.mem_map] at hv
 obtain ⟨i,_,rfl⟩:=hv
 show ((yt 0 0 0 0 0 ⟨#[]⟩).toArray[i % 6]!).oneCell' = true
 rcases (by omega:i % 6 = 0 ∨ i % 6 = 1 ∨ i % 6 = 2 ∨ i % 6 = 3 ∨ i % 6 = 4 ∨ i % 6 = 5) with e | e | e | e | e | e <;> rw [e] <;> rfl
theorem drop_eq {l m:List Od} {j:Nat} (h:m.drop j = l.drop j):m[j]? = l[j]?:=by
 have:=congrArg (·[0]?) h
 simpa using this
theorem drop_more {l m:List Od} {j:Nat} (h:m.drop j = l.drop j):m.drop (j + 1) = l.drop (j + 1):=by
 have:=congrArg (List.drop 1) h
 simpa using this
theorem deleteDay_any (g F B:Nat) (l:List Od) (w:World) (hn:l.length ≤ 1000) (Y:ORow w B (.slice (some (J g 0)) l.length F) l) :
  Calls Tryz.prog 119 #[.slice (some (J g 0)) l.length F,.func (.func 118) #[] #[]] w fun e w'=>e = yk (.slice (some (J g 0)) (l.filter ndy).length F)∧ORow w' B (.slice (some (J g 0)) (l.filter ndy).length F) (l.filter ndy)∧w.grownBy w' (some g):=by
 obtain ⟨i0,uv,uq,uw,uM⟩:=info_parts Tryz.infoOrder
 have HO:=Q Y
 have hgw:g < w.heap.size:=(Y.lt g rfl).2
 clear Y
 go_enter Tryz.func119,Tryz.ntmps119
 go_wp2_with fail
 refine (indexDay_any _ l w (zT (M HO) (by omega))).mono ?_
 rcases fdyF_spec l 0 with ⟨z,K⟩ | ⟨i,o,z,K,h3,h4⟩
 ·have hf:fdy l = -1:=z
  rw [hf]
  rintro e w2 ⟨rfl,ue⟩
  have vO:=Q (zj (M HO) ue)
  have vz:Hid (w.grownBy w2 (some g)):=zU ue tg
  have HF:=Q K
  clear ue z K hf
  go_wp2_with fail
  go_ret
  rw [M HF]
  exact ⟨rfl,M vO,M vz⟩
 ·have hf:fdy l = (i:Int):=by rw [fdy,z]; congr 1; omega
  rw [hf]
  rintro e w2 ⟨rfl,ue⟩
  have hil:=(yD.1 K).1
  have ux:Hid (∃ m:List Od,m.length = l.length∧ORow w2 B (.slice (some (J g 0)) l.length F) m∧m.take i = (l.take (i + 1)).filter ndy∧m.drop (i + 1) = l.drop (i + 1)∧w.grownBy w2 (some g)):=⟨l,rfl,zj (M HO) ue,by rw [take_day K h3,h4],rfl,zU ue tg⟩
  have HIL:Hid (((l.take (i + 1)).filter ndy).length = i):=by show _ = _; rw [take_day K h3,h4,List.length_take]; omega
  have hi1:(i:Int) ≠ -1:=by omega
  have hi1':((i:Int) == -1) = false:=by rw [xa]; exact hi1
  clear ue z K h3 h4 hf
  go_wp2_with fail
  go_loopw [5,6] (fun iv jv wr=>∃ (k j:Nat) (m:List Od),j ≤ l.length∧k < j∧iv = H k∧jv = H j∧Hid (m.length = l.length∧ORow wr B (.slice (some (J g 0)) l.length F) m∧m.take k = (l.take j).filter ndy∧((l.take j).filter ndy).length = k∧m.drop j = l.drop j∧w.grownBy wr (some g))) (fun _ jv _=>l.length - (intOf jv).toNat)
  case atStart =>
   obtain ⟨m,a1,a2,a3,a4,a5⟩:=M ux
   exact ⟨i,i + 1,m,by omega,by omega,rfl,by go_num,⟨a1,a2,a3,M HIL,a4,a5⟩⟩
  case round =>
   obtain ⟨k,j,m,L,hkj,rfl,rfl,uT⟩:=hrel
   obtain ⟨a1,a2,a3,a4,a5,a6⟩:=M uT
   by_cases xL:j < l.length
   ·obtain ⟨o,hjo⟩:∃ o,l[j]? = some o:=⟨_,yE xL⟩
    have hmo:m[j]? = some o:=(drop_eq a5).trans hjo
    obtain ⟨c,uC⟩:∃ c,m[k]? = some c:=⟨_,yE (by omega)⟩
    obtain ⟨g0,g1,g2,g3,g4,g5⟩:=zx (row_hereE a2 (by omega) hmo).1
    have uO:(j:Int) < l.length:=by omega
    have jk:(0:Int) ≤ j:=by omega
    have ut:g < wr.heap.size:=(a2.lt g rfl).2
    have HJO:=Q hjo
    have qW:=Q uC
    have vF:=eD wr (E (yt o.id o.side o.ticks o.left o.life o.tag).toArray 49)
    have uE:=Q vF
    have HBR:Hid (World.rangeAt (wr.alloc (E (yt o.id o.side o.ticks o.left o.life o.tag).toArray 49)) wr.heap.size 0 o.vs):=zg wr o.vs _
    have hsx:wr.heap.size < (wr.alloc (E (yt o.id o.side o.ticks o.left o.life o.tag).toArray 49)).heap.size:=by rw [ze]; omega
    clear hjo hmo uC vF a1 a2 a3 a4 a5 a6
    go_wp2_with fail
    generalize (wr.alloc (E (yt o.id o.side o.ticks o.left o.life o.tag).toArray 49)) = ho at uE HBR hsx ⊢
    refine (er o ho).mono ?_
    rintro e w3 ⟨rfl,uf⟩
    have xM:=Q (eG (M uE) uf)
    have oR:=zb (M HBR) uf hsx
    obtain ⟨x0,x1,x2,x3,x4,x5⟩:=yz oR
    clear uf oR g0 g1 g2 g3 g4 g5
    obtain ⟨a1,a2,a3,a4,a5,a6⟩:=M uT
    have a2':=zj a2 (M xM)
    have HA2:=Q a2'
    have vJ:Hid (w.grownBy w3 (some g)):=a6.trans (zU (M xM) tg)
    have HA:Hid (m.length = l.length∧m.take k = (l.take j).filter ndy∧((l.take j).filter ndy).length = k∧m.drop j = l.drop j):=⟨a1,a3,a4,a5⟩
    have hck:=row_hereE a2' (by omega) (M qW)
    by_cases hd:o.life = 1
    ·have hb:(o.life == 1) = true:=by simpa using hd
     have HN:Hid (m.length = l.length∧ORow w3 B (.slice (some (J g 0)) l.length F) m∧m.take k = (l.take (j + 1)).filter ndy∧((l.take (j + 1)).filter ndy).length = k∧m.drop (j + 1) = l.drop (j + 1)∧w.grownBy w3 (some g)):=by
      rw [take_day (M HJO) hd]
      exact ⟨a1,a2',a3,a4,drop_more a5,M vJ⟩
     clear hd a1 a2 a3 a4 a5 a6 a2' hck
     go_wp2_with fail
     go_roundw
     case rel=>exact ⟨k,j + 1,m,by omega,by omega,rfl,by go_num,M HN⟩
     case measure=>simp [intOf]; omega
    ·have hb:(o.life == 1) = false:=by rw [xa]; exact hd
     have hput:=oRow_put (x:=o) a2' a1 (M qW)
     have HN:Hid ((m.set k o).length = l.length∧ORow (w3.setCells g (k * 6) o.vs) B (.slice (some (J g 0)) l.length F) (m.set k o)∧(m.set k o).take (k + 1) = (l.take (j + 1)).filter ndy∧((l.take (j + 1)).filter ndy).length = k + 1∧(m.set k o).drop (j + 1) = l.drop (j + 1)∧w.grownBy (w3.setCells g (k * 6) o.vs) (some g)):=by
      rw [take_stay (M HJO) hd]
      refine ⟨by rw [List.length_set]; exact a1,hput.1,?_,by rw [yM,a4]; rfl,?_,(M vJ).trans hput.2⟩
      ·rw [List.take_add_one,List.getElem?_set_self (by omega),List.take_set_of_le tg,a3]; rfl
      ·rw [List.drop_set_of_lt (by omega)]; exact drop_more a5
     obtain ⟨p0,p1,p2,p3,p4,p5⟩:=zx hck.1
     have q0:w3.frozen? (J g (k * 6)) = false:=hck.2 0 (by omega)
     have q1:w3.frozen? (J g (k * 6 + 1)) = false:=hck.2 1 (by omega)
     have q2:w3.frozen? (J g (k * 6 + 2)) = false:=hck.2 2 (by omega)
     have q3:w3.frozen? (J g (k * 6 + 3)) = false:=hck.2 3 (by omega)
     have q4:w3.frozen? (J g (k * 6 + 4)) = false:=hck.2 4 (by omega)
     have q5:w3.frozen? (J g (k * 6 + 5)) = false:=hck.2 5 (by omega)
     have jZ:(k:Int) < l.length:=by omega
     have hk0:(0:Int) ≤ k:=by omega
     clear hd a1 a2 a3 a4 a5 a6 a2' hck hput
     go_wp2_with fail
     go_roundw
     case rel=>exact ⟨k + 1,j + 1,m.set k o,by omega,by omega,by go_num,by go_num,M HN⟩
     case measure=>simp [intOf]; omega
   ·obtain rfl:j = l.length:=by omega
    rw [yW tg] at a3 a4
    obtain ⟨mm,pD⟩:∃ mm,l.length - k = mm + 1:=⟨l.length - k - 1,by omega⟩
    rcases a2.2 with ⟨hbad,_⟩ | ⟨g',po,xp,hv,hBg,kn,vR,hmx,ke,kr⟩
    ·cases hbad
    simp only [Value.slice.injEq,Option.some.injEq,Addr.mk.injEq,and_true] at hv
    obtain ⟨rfl,-,rfl⟩:=hv
    have hzl:=zero_len (mm + 1)
    have jY:k * 6 + (mm + 1) * 6 ≤ xp.size:=by rw [ke]; omega
    have xk:∀ (ty:TypeId) (c:Nat),(Builtin.clear_ #[26] ty #[.slice (some (J g (k * 6))) (l.length - k) c]).run Tryz.prog wr = .ok (.tuple #[]) (wr.setRow g (xp.toList.take (k * 6) ++ (Builtin.zeroCells (Value.cells (.agg (yt 0 0 0 0 0 ⟨#[]⟩).toArray)) (mm + 1)).toList ++ xp.toList.drop (k * 6 + (mm + 1) * 6)).toArray):=fun ty c=>by
     rw [pD]
     have:=clear_rowN wr 26 ty 49 i0 _ Tryz.underlying26 uv uq g (k * 6) mm c xp kn (by rw [hzl]; exact jY) (zero_one _)
     rw [hzl] at this
     exact this
    generalize hZ:(Builtin.zeroCells (Value.cells (.agg (yt 0 0 0 0 0 ⟨#[]⟩).toArray)) (mm + 1)).toList = yj at hzl xk
    have hl2:(xp.toList.take (k * 6) ++ yj ++ xp.toList.drop (k * 6 + (mm + 1) * 6)).length = F * 6:=by
     have xk:xp.toList.length = F * 6:=by simpa using ke
     rw [yM,yM,hzl,List.length_take,List.length_drop,xk]; rw [ke] at jY; omega
    have jO:(xp.toList.take (k * 6) ++ yj ++ xp.toList.drop (k * 6 + (mm + 1) * 6)).take (k * 6) = (l.filter ndy).flatMap Od.vs:=by
     have xk:xp.toList.length = F * 6:=by simpa using ke
     have uC:(xp.toList.take (k * 6)).length = k * 6:=by rw [List.length_take,xk]; rw [ke] at jY; omega
     rw [List.append_assoc,List.take_append_of_le_length (by omega),yW (by omega)]
     have h:=congrArg (List.take (k * 6)) kr
     rw [List.take_take,show min (k * 6) (m.length * 6) = k * 6 by omega] at h
     rw [h,← a3]
     conv=>lhs; rw [← List.take_append_drop k m,List.flatMap_append]
     rw [List.take_append_of_le_length (by rw [zM Od.len,List.length_take]; omega),yW (by rw [zM Od.len,List.length_take]; omega)]
    have pY:=Q (setRow_heap wr g xp (xp.toList.take (k * 6) ++ yj ++ xp.toList.drop (k * 6 + (mm + 1) * 6)).toArray 49 (0,0) kn)
    have vz:Hid (w.grownBy (wr.setRow g (xp.toList.take (k * 6) ++ yj ++ xp.toList.drop (k * 6 + (mm + 1) * 6)).toArray) (some g)):=a6.trans ⟨rfl,rfl,rfl,by simp,fun q hq xA=>setRow_other wr g q _ (fun e=>xA (by rw [e]))⟩
    generalize (xp.toList.take (k * 6) ++ yj ++ xp.toList.drop (k * 6 + (mm + 1) * 6)) = C2 at hl2 jO xk pY vz
    have pP:=Q a4
    have HL2:=Q hl2
    have vh:=Q jO
    have HMM:=Q pD
    have k1:¬ F = k:=by omega
    have k2:(k:Int) ≤ l.length:=by omega
    have k3:(0:Int) ≤ k:=by omega
    have k4:(l.length:Int) ≤ F:=by omega
    have k5:(k:Int) ≤ F:=by omega
    have k6:¬ (l.length:Int) < l.length:=by omega
    have HB:=Q (And.intro hBg (And.intro hmx vR))
    clear hzl hZ hl2 jO pD jY kr ke kn a1 a2 a3 a4 a5 a6 xL L uT ux HIL
    go_wp2_with fail
    go_ret
    have e:=M pP
    refine ⟨by rw [e]; rfl,⟨by rw [zM Od.len],.inr ⟨g,F,C2.toArray,by rw [e],(M HB).1,M pY,by rw [e]; omega,(M HB).2.1,by simpa using M HL2,by rw [e]; simpa using M vh⟩⟩,M vz⟩
end Go.Proofs.YtbakanofkghmiaaGreat
