/-
  The exact law of Broken, walked: it returns true, and nothing that was there is turned.
-/
import Derived.Test.YtnphbkgfjanmgaaGreatDoorBj48
import Derived.Test.YtnphbkgfjanmgaaGreatDoorBj49
set_option linter.unusedVariables false
set_option maxHeartbeats 6400000
set_option maxRecDepth 100000
namespace Go.Proofs.YtnphbkgfjanmgaaGreatDoor
open Go.RowKit
def wbl (w:World) (xs ys:List Value):World:=(w.alloc (Obj.cells xs.toArray 24)).alloc (Obj.cells ys.toArray 46)
theorem wbl_box (w:World) (xs ys:List Value):Bx (wbl w xs ys) w.heap.size xs∧Bx (wbl w xs ys) (w.heap.size + 1) ys∧yn w (wbl w xs ys)∧w.heap.size + 1 < (wbl w xs ys).heap.size:=by
 have oP:(w.alloc (Obj.cells xs.toArray 24)).heap.size = w.heap.size + 1:=by simp
 have ui:Below (w.heap.size + 1) (w.alloc (Obj.cells xs.toArray 24)) (wbl w xs ys):=by rw [← oP]; exact fE _ _
 refine ⟨zg (zq w xs 24) ui (by omega),?_,(fE _ _).alloc (by simp) _,by simp [wbl]⟩
 have:=zq (w.alloc (Obj.cells xs.toArray 24)) ys 46
 rwa [oP] at this
theorem lawBroken (n:Int) (a:Option Addr) (len cap:Nat) (a1:Option Addr) (au qR:Nat) (e:Ev) (w:World) (h:(Lit.int .i64 n).wf = true∧IsOrders w a len cap) (Q:IsEvents w a1 au qR) (he:e.ok) (hE:ErrT w) :
  Calls Tryz.prog 4 #[.agg #[I n,.slice a len cap],.slice a1 au qR,evV e] w fun r w'=>r = .returned (.bool true)∧yn w w':=by
 have hef:=he.fit
 have HSE:=M (fun x W h0 Q=>szEvent_any e x W h0 Q hef.g)
 have qm:=M (fun W=>toEvent_any e W)
 have HIS:Hid (au ≤ 1073741824→∃ es:List Ev,es.length = au∧RdR Ev.vs 14 w (.slice a1 au qR) es∧∀ c ∈ es,c.ok):=Q.2
 have HFR:=M (fun W x0 hx0 hx1 hl=>szEventS_far a1 au qR W x0 hx0 hx1 hl Q.1)
 have HE:=M (fun W Y=>cx (w':=W) hE Y ya)
 have HSB:=M (fun (vb:Value) l W x es Q E h3 h4 h5=>specBroken_any n vb l x es e W Q E h3 h4 h5 hef)
 have HIB:=M (fun (vb:Value) l W x es Q E h3 h4 h5 h6=>implBroken_any n vb l x es e W Q E h3 h4 h5 hef h6)
 have HBR:Hid (∀ l es,∃ ra rc,brkR n l es e = ra∧brkC n l es e = rc):=fun l es=>⟨_,_,rfl,rfl⟩
 obtain ⟨hX,hY,hB,hZ⟩:=wbl_box w [I n,.slice a len cap] e.vs
 have qQ:=M hX
 have pt:=M hY
 have H0:=M hB
 generalize hW:wbl w [I n,.slice a len cap] e.vs = W1 at qQ pt H0 hZ
 have HW:=M hW
 have qc:Hid (∀ W,∃ y:Int,-1 ≤ y∧y ≤ 1048576∧(yn w W→Calls Tryz.prog 6 #[.agg #[I n,.slice a len cap],I 1048576] W fun e w'=>∃ y:Int,e = .returned (I y)∧-1 ≤ y∧y ≤ 1048576∧(0 ≤ y→len ≤ 1048576)∧yn W w')):=fun W=>⟨0,by omega,by omega,fun Y=>by
  by_cases hl:len ≤ 1048576
  ·obtain ⟨l,rfl,hr,vw⟩:=h.2.2 (by omega)
   refine (szBook_any n _ l W (zh hr Y ya) hl (fun c hc=>(vw c hc).tag)).mono ?_
   rintro e w2 ⟨y,rfl,Q,E,h3⟩
   exact ⟨y,rfl,Q,E,fun _=>hl,h3⟩
  ·refine (szBook_long n a len cap W (by omega) h.2.1).mono ?_
   rintro e w2 ⟨rfl,h3⟩
   exact ⟨-1,rfl,by omega,by omega,fun h=>by omega,h3⟩⟩
 have HOS:Hid (len ≤ 1048576→∃ l:List Od,l.length = len∧RdR Od.vs 6 w (.slice a len cap) l∧∀ c ∈ l,c.ok):=fun hl=>h.2.2 (by omega)
 obtain ⟨xm,⟨ck,L,ct,F,cq,ci,X,cg⟩,id,xi,qty,xj,xh⟩:=e
 unfold evV at HSE qm HSB HIB ⊢
 unfold Ev.vs at pt
 simp only at HSE qm HSB HIB pt ⊢
 clear h Q he hE hef hX hY hB hW
 go_enter Tryz.func4,Tryz.ntmps4
 refine fI fun hR HK=>?_
 go_wp2_with fail
 refine H HK _ _ ?_
 clear HK
 change Code.wp _ _ _ _ (wbl w [I n,.slice a len cap] (Ev.vs ⟨xm,⟨ck,L,ct,F,cq,ci,X,cg⟩,id,xi,qty,xj,xh⟩))
 rw [H HW]
 clear HW
 have x0:=R (H qQ) 0 rfl
 have x1:=R (H qQ) 1 rfl
 go_wp2_with fail
 obtain ⟨_,_,_,hsb⟩:=H qc W1
 refine (hsb (H H0)).mono ?_
 clear hsb qc
 rintro e w2 ⟨y,rfl,hy0,hy1,hyl,Y⟩
 have B2:=M (fH (H H0) Y)
 have xH:=M (zg (H qQ) Y (by omega))
 have jj:=M (zg (H pt) Y hZ)
 have uF:w.heap.size + 1 < w2.heap.size:=by have:=Y.size; omega
 clear Y x0 x1 qQ pt H0 hZ
 by_cases hy:y < 0
 ·clear hyl
  go_wp2_with fail
  go_ret
  exact ⟨rfl,H B2⟩
 obtain ⟨l,hll,hrl,vw⟩:=H HOS (hyl (by omega))
 subst hll
 have HR:=M hrl
 have HG:Hid (∀ c ∈ l,c.tag.size ≤ maxLen):=fun c hc=>(vw c hc).tag
 have hl:=hyl (by omega)
 clear hyl hrl vw HOS
 by_cases hey:(au:Int) ≤ y
 case neg =>
  go_wp2_with fail
  refine (H HFR w2 y (by omega) (by omega) (by omega)).mono ?_
  rintro e w3 ⟨rfl,oR⟩
  rw [oR]
  go_wp2_with fail
  go_ret
  exact ⟨rfl,H B2⟩
 obtain ⟨es,rfl,ji,hek⟩:=H HIS (by omega)
 have jm:=M ji
 have HEF:Hid (∀ c ∈ es,c.fit):=fun c hc=>(hek c hc).fit
 clear ji hek HIS HFR
 go_wp2_with fail
 refine (szEventS_at _ es w2 (zh (H jm) (H B2) ya) y (by omega) (by omega) hey (fun c hc=>(H HEF c hc).g)).mono ?_
 rintro e w3 ⟨y2,rfl,hy2,Y⟩
 have B3:=M (fH (H B2) Y)
 have uC:=M (zg (H xH) Y (by omega))
 have HY3:=M (zg (H jj) Y uF)
 have aO:w.heap.size + 1 < w3.heap.size:=by have:=Y.size; omega
 clear Y xH jj uF hey
 obtain ⟨e0,e1,e2,e3,e4,e5,e6,e7,e8,e9,uy,uk,uW,uA⟩:=bx14 (H HY3)
 by_cases hyb:y2 < 0
 ·go_wp2_with fail
  go_ret
  exact ⟨rfl,H B3⟩
 go_wp2_with fail
 refine (H HSE y2 w3 (by omega) (by omega)).mono ?_
 rintro e w4 ⟨y3,rfl,hy3,Y⟩
 have B4:=M (fH (H B3) Y)
 have xE:=M (zg (H uC) Y (by omega))
 have qy:=M (zg (H HY3) Y aO)
 have hz4:w.heap.size + 1 < w4.heap.size:=by have:=Y.size; omega
 clear Y uC HY3 aO e0 e1 e2 e3 e4 e5 e6 e7 e8 e9 uy uk uW uA HSE
 by_cases hyc:y3 < 0
 ·go_wp2_with fail
  go_ret
  exact ⟨rfl,H B4⟩
 obtain ⟨ra,rc,hra,hrc⟩:=H HBR l es
 have HSP:=M (fun W ad X x Q E=>H HSB (.slice (some ad) l.length X) l W x es Q (.inr ⟨_,_,_,rfl⟩) (H HG) E (H HEF))
 have HIM:=M (fun W ad X x Q E h3=>H HIB (.slice (some ad) l.length X) l W x es Q (.inr ⟨_,_,_,rfl⟩) (H HG) E (H HEF) h3)
 rw [hra,hrc] at HSP HIM
 clear hra hrc HSB HIB HBR hy0 hy1 hy2 hy3
 have pp:=M (zh (H HR) (H B4) ya)
 have HE4:=M (zh (H jm) (H B4) ya)
 have MOA:Hid (∀ (W W2:World) (v:Value),yn W W2→(fun W v=>∃ ad X,v = .agg #[I n,.slice (some ad) l.length X]∧RdR Od.vs 6 W (.slice (some ad) l.length X) l) W v→(fun W v=>∃ ad X,v = .agg #[I n,.slice (some ad) l.length X]∧RdR Od.vs 6 W (.slice (some ad) l.length X) l) W2 v):=fun W W2 v Y h=>by obtain ⟨ad,X,Q,E⟩:=h; exact ⟨ad,X,Q,zh E Y ya⟩
 have MOB:Hid (∀ (W W2:World) (v:Value),yn W W2→(fun W v=>RdR Ev.vs 14 W v es) W v→(fun W v=>RdR Ev.vs 14 W v es) W2 v):=fun W W2 v Y h=>zh h Y ya
 have MOC:Hid (∀ (W W2:World) (v:Value),yn W W2→(fun W v=>∃ v2,v = .agg #[I n,v2]∧RdR Od.vs 6 W v2 l) W v→(fun W v=>∃ v2,v = .agg #[I n,v2]∧RdR Od.vs 6 W v2 l) W2 v):=fun W W2 v Y h=>by obtain ⟨v2,Q,E⟩:=h; exact ⟨v2,Q,zh E Y ya⟩
 go_wp2_with fail
 refine zk (RG w4 (fun f=>{ tmps:=#[.agg #[I n,.slice a l.length cap],.slice a1 es.length qR,.agg (yv xm ck L ct F cq ci X cg id xi qty xj xh).toArray,J w.heap.size 0,Z,J (w.heap.size + 1) 0,.bool false,I y3,f 10,f 11,Z,Z,Z,Z,.agg #[I n,.slice a l.length cap],I 1048576,I y,I y,.bool (decide (y < 0)),.slice a1 es.length qR,I y,I y2,I y2,.bool (decide (y2 < 0)),.agg (yv xm ck L ct F cq ci X cg id xi qty xj xh).toArray,I y2,I y3,I y3,.bool (decide (y3 < 0)),f 7,f 0,f 1,f 2,f 3,f 4,f 5,f 6,f 8,f 9,Z,Z,Z,Z,Z,Z,Z,Z,Z,Z,Z,Z,Z,Z,Z,Z,Z,Z,Z,Z,Z,Z,Z,Z,Z,Z,Z,Z,Z,Z],defers:=[] }) 99 (DB [some (.agg #[I n,.slice a l.length cap]),none,some (.slice a1 es.length qR),none,some (.agg (yv xm ck L ct F cq ci X cg id xi qty xj xh).toArray),some (.agg (yv xm ck L ct F cq ci X cg id xi qty xj xh).toArray),some (.tuple #[I ra,I rc]),some (.tuple #[I ra,I rc]),some (I ra),some (I rc),some (I ra),some (I rc)] (fun W v=>∃ ad X,v = .agg #[I n,.slice (some ad) l.length X]∧RdR Od.vs 6 W (.slice (some ad) l.length X) l) 1 (fun W v=>RdR Ev.vs 14 W v es) 3)) (by kernel_rfl) ?_ ?_ ?_
 ·exact ⟨fun _=>Z,rfl,⟨rfl,rfl,rfl,Nat.le_refl _,fun _ _=>rfl⟩,fun j O=>by rw [yI] at O; split at O <;> simp at O⟩
 rotate_left
 ·rintro x fG xn i op ⟨f,rfl,xk,hD⟩ V hx N xq D
  have xy:=M xk
  have HD:=M hD
  match i,N with
  | 0,N =>
   obtain rfl:=yb N
   have z0:=R (zg (H xE) xk (by omega)) 0 rfl
   have z1:=R (zg (H xE) xk (by omega)) 1 rfl
   clear D hD xk V
   rw [if_pos (by rfl)];unfold Oper.wp;go_simp
   exact ⟨upd f 0 (.agg #[I n,.slice a l.length cap]),by simp [upd],zf (H xy) (H HD) (by decide) (db_v rfl (by decide) (by decide))⟩
  | 1,N =>
   obtain rfl:=yb N
   have g0:=(hD 0 (ye D 0 rfl)).1 _ rfl
   have ql:=M (zh (H pp) xk ya)
   clear D hD xk V
   rw [if_pos (by rfl)];unfold Oper.wp;go_simp
   refine (fj n _ l xn (H ql)).mono ?_
   rintro e w5 ⟨ad,cp9,rfl,ho4,xw⟩
   exact ⟨upd f 1 (.agg #[I n,.slice (some ad) l.length cp9]),by simp [upd,g0],co (dd (H MOA) (H MOB)) (H xy) (H HD) xw (by decide) (db_a rfl ⟨ad,cp9,rfl,dJ ho4⟩ (by decide))⟩
  | 2,N =>
   obtain rfl:=yb N
   clear D hD xk V
   rw [if_pos (by rfl)];unfold Oper.wp;go_simp
   exact ⟨upd f 2 (.slice a1 es.length qR),by simp [upd],zf (H xy) (H HD) (by decide) (db_v rfl (by decide) (by decide))⟩
  | 3,N =>
   obtain rfl:=yb N
   have g2:=(hD 2 (ye D 2 rfl)).1 _ rfl
   have ql:=M (zh (H HE4) xk ya)
   clear D hD xk V
   rw [if_pos (by rfl)];unfold Oper.wp;go_simp
   refine (ff _ es xn (H ql)).mono ?_
   rintro e w5 ⟨xx,rfl,ho4,xw⟩
   exact ⟨upd f 3 xx,by simp [upd,g2],co (dd (H MOA) (H MOB)) (H xy) (H HD) xw (by decide) (db_b rfl (dJ ho4) (by decide))⟩
  | 4,N =>
   obtain rfl:=yb N
   obtain ⟨e0,e1,e2,e3,e4,e5,e6,e7,e8,e9,uy,uk,uW,uA⟩:=bx14 (zg (H qy) xk hz4)
   clear D hD xk V
   rw [if_pos (by rfl)];unfold Oper.wp;go_simp
   exact ⟨upd f 4 (.agg (yv xm ck L ct F cq ci X cg id xi qty xj xh).toArray),by simp [upd],zf (H xy) (H HD) (by decide) (db_v rfl (by decide) (by decide))⟩
  | 5,N =>
   obtain rfl:=yb N
   have g4:=(hD 4 (ye D 4 rfl)).1 _ rfl
   clear D hD xk V
   rw [if_pos (by rfl)];unfold Oper.wp;go_simp
   refine (H qm xn).mono ?_
   rintro e w5 ⟨rfl,xw⟩
   exact ⟨upd f 5 (.agg (yv xm ck L ct F cq ci X cg id xi qty xj xh).toArray),by simp [upd,g4],co (dd (H MOA) (H MOB)) (H xy) (H HD) xw (by decide) (db_v rfl (by decide) (by decide))⟩
  | 6,N =>
   obtain rfl:=yb N
   have g5:=(hD 5 (ye D 5 rfl)).1 _ rfl
   obtain ⟨ad,cp9,g1,jh⟩:=(hD 1 (ye D 1 rfl)).2.1 rfl
   have hr3:=(hD 3 (ye D 3 rfl)).2.2 rfl
   have xt:=M (And.intro jh hr3)
   clear jh hr3
   clear D hD xk V
   rw [if_pos (by rfl)];unfold Oper.wp;go_simp
   refine (H HSP xn ad cp9 (f 3) (H xt).1 (H xt).2).mono ?_
   rintro e w5 ⟨rfl,xw⟩
   exact ⟨upd f 6 (.tuple #[I ra,I rc]),by simp [upd,g1,g5],co (dd (H MOA) (H MOB)) (H xy) (H HD) xw (by decide) (db_v rfl (by decide) (by decide))⟩
  | 7,N =>
   obtain rfl:=yb N
   have g6:=(hD 6 (ye D 6 rfl)).1 _ rfl
   clear D hD xk V
   rw [if_pos (by rfl)];unfold Oper.wp;go_simp
   exact ⟨upd f 7 (.tuple #[I ra,I rc]),by simp [upd,g6],zf (H xy) (H HD) (by decide) (db_v rfl (by decide) (by decide))⟩
  | 8,N =>
   obtain rfl:=yb N
   have g7:=(hD 7 (ye D 7 rfl)).1 _ rfl
   clear D hD xk V
   rw [if_pos (by rfl)];unfold Oper.wp;go_simp
   exact ⟨upd f 8 (I ra),by simp [upd,g7],zf (H xy) (H HD) (by decide) (db_v rfl (by decide) (by decide))⟩
  | 9,N =>
   obtain rfl:=yb N
   have g7:=(hD 7 (ye D 7 rfl)).1 _ rfl
   clear D hD xk V
   rw [if_pos (by rfl)];unfold Oper.wp;go_simp
   exact ⟨upd f 9 (I rc),by simp [upd,g7],zf (H xy) (H HD) (by decide) (db_v rfl (by decide) (by decide))⟩
  | 10,N =>
   obtain rfl:=yb N
   have g8:=(hD 8 (ye D 8 rfl)).1 _ rfl
   clear D hD xk V
   rw [if_pos (by rfl)];unfold Oper.wp;go_simp
   exact ⟨upd f 10 (I ra),by simp [upd,g8],zf (H xy) (H HD) (by decide) (db_v rfl (by decide) (by decide))⟩
  | 11,N =>
   obtain rfl:=yb N
   have g9:=(hD 9 (ye D 9 rfl)).1 _ rfl
   clear D hD xk V
   rw [if_pos (by rfl)];unfold Oper.wp;go_simp
   exact ⟨upd f 11 (I rc),by simp [upd,g9],zf (H xy) (H HD) (by decide) (db_v rfl (by decide) (by decide))⟩
  | i + 12,N=>simp at N
 ·rintro x fG xn ⟨f,rfl,xk,hD⟩ hx xN
  have xo:=bT xN hx (by kernel_rfl)
  have uy:f 10 = I ra:=(hD 10 (xo 10 (by simp))).1 _ rfl
  have uk:f 11 = I rc:=(hD 11 (xo 11 (by simp))).1 _ rfl
  have B5:=M (fH (H B4) xk)
  have uI:=M (zg (H xE) xk (by omega))
  have HY5:=M (zg (H qy) xk hz4)
  have hz5:w.heap.size + 1 < xn.heap.size:=by have:=xk.size; omega
  simp only [uy,uk]
  generalize f 0 = u0,f 1 = u1,f 2 = u2,f 3 = u3,f 4 = u4,f 5 = u5,f 6 = u6,f 7 = u7,f 8 = u8,f 9 = u9
  clear hD xo uy uk xN hx xk pp HE4 xE qy B4 hz4 HSP
  have x0:=R (H uI) 0 rfl
  have x1:=R (H uI) 1 rfl
  go_wp2_with fail
  refine (fj n _ l xn (zh (H HR) (H B5) ya)).mono ?_
  rintro e w6 ⟨a5,cp5,rfl,ho6,Y⟩
  have HO6:=M (dJ ho6)
  have B6:=M (fH (H B5) Y)
  have vp:=M (zg (H uI) Y (by omega))
  have oe:=M (zg (H HY5) Y hz5)
  have hz6:w.heap.size + 1 < w6.heap.size:=by have:=Y.size; omega
  clear Y ho6 x0 x1 uI HY5 hz5 B5
  obtain ⟨vX,HX7⟩:=fJ w6 [I n,.slice (some a5) l.length cp5] 34
  have qx:=M vX
  have H7:Hid (w6.heap.size < (w6.alloc (A #[I n,.slice (some a5) l.length cp5] 34)).heap.size):=by show _ < _; simp
  clear vX
  go_wp2_with fail
  generalize (w6.alloc (A #[I n,.slice (some a5) l.length cp5] 34)) = W7 at HX7 qx H7 ⊢
  have B7:=M ((H B6).trans ((H qx).mono (H B6).size))
  refine (ff _ es W7 (zh (H jm) (H B7) ya)).mono ?_
  rintro e w8 ⟨q1,rfl,ho8,hb8⟩
  have HO8:=M (dJ ho8)
  have HB8:=M (fH (H qx) hb8)
  have B8:=M ((H B6).trans ((H HB8).mono (H B6).size))
  have HX8:=M (zg (H vp) (H HB8) (by omega))
  have HY8:=M (zg (H oe) (H HB8) hz6)
  have HZ8:=M (zg (H HX7) hb8 (H H7))
  have H8:Hid (w6.heap.size < w8.heap.size):=yJ (H H7) hb8.size
  have HO6:=M (zh (H HO6) (H HB8) ya)
  have hz8:w.heap.size + 1 < w8.heap.size:=by have:=(H HB8).size; omega
  clear ho8 hb8 vp oe HX7 qx HB8 B6 B7 H7 hz6
  go_wp2_with fail
  refine zk (RG w8 (fun f=>{ tmps:=#[.agg #[I n,.slice a l.length cap],.slice a1 es.length qR,.agg (yv xm ck L ct F cq ci X cg id xi qty xj xh).toArray,J w.heap.size 0,Z,J (w.heap.size + 1) 0,.bool false,I y3,I ra,I rc,J w6.heap.size 0,q1,f 8,f 9,.agg #[I n,.slice a l.length cap],I 1048576,I y,I y,.bool (decide (y < 0)),.slice a1 es.length qR,I y,I y2,I y2,.bool (decide (y2 < 0)),.agg (yv xm ck L ct F cq ci X cg id xi qty xj xh).toArray,I y2,I y3,I y3,.bool (decide (y3 < 0)),u7,u0,u1,u2,u3,u4,u5,u6,u8,u9,.agg #[I n,.slice a l.length cap],.agg #[I n,.slice (some a5) l.length cp5],.slice a1 es.length qR,q1,f 5,f 0,f 1,f 2,f 3,f 4,f 6,f 7,Z,Z,Z,Z,Z,Z,Z,Z,Z,Z,Z,Z,Z,Z,Z,Z,Z,Z],defers:=[] }) 99 (DB [some (.agg #[I n,.slice (some a5) l.length cp5]),some (q1),some (.agg (yv xm ck L ct F cq ci X cg id xi qty xj xh).toArray),some (.agg (yv xm ck L ct F cq ci X cg id xi qty xj xh).toArray),some (.tuple #[I ra,I rc]),some (.tuple #[I ra,I rc]),some (I ra),some (I rc),some (I ra),some (I rc)] (fun _ _=>True) 99 (fun _ _=>True) 99)) (by kernel_rfl) ?_ ?_ ?_
  ·exact ⟨fun _=>Z,rfl,⟨rfl,rfl,rfl,Nat.le_refl _,fun _ _=>rfl⟩,fun j O=>by rw [yI] at O; split at O <;> simp at O⟩
  rotate_left
  ·rintro x fG xn i op ⟨f,rfl,xk,hD⟩ V hx N xq D
   have xy:=M xk
   have HD:=M hD
   match i,N with
   | 0,N =>
    obtain rfl:=yb N
    have z0:=R (zg (H HZ8) xk (H H8)) 0 rfl
    have z1:=R (zg (H HZ8) xk (H H8)) 1 rfl
    clear D hD xk V
    rw [if_pos (by rfl)];unfold Oper.wp;go_simp
    exact ⟨upd f 0 (.agg #[I n,.slice (some a5) l.length cp5]),by simp [upd],zf (H xy) (H HD) (by decide) (db_v rfl (by decide) (by decide))⟩
   | 1,N =>
    obtain rfl:=yb N
    clear D hD xk V
    rw [if_pos (by rfl)];unfold Oper.wp;go_simp
    exact ⟨upd f 1 (q1),by simp [upd],zf (H xy) (H HD) (by decide) (db_v rfl (by decide) (by decide))⟩
   | 2,N =>
    obtain rfl:=yb N
    obtain ⟨e0,e1,e2,e3,e4,e5,e6,e7,e8,e9,uy,uk,uW,uA⟩:=bx14 (zg (H HY8) xk hz8)
    clear D hD xk V
    rw [if_pos (by rfl)];unfold Oper.wp;go_simp
    exact ⟨upd f 2 (.agg (yv xm ck L ct F cq ci X cg id xi qty xj xh).toArray),by simp [upd],zf (H xy) (H HD) (by decide) (db_v rfl (by decide) (by decide))⟩
   | 3,N =>
    obtain rfl:=yb N
    have g2:=(hD 2 (ye D 2 rfl)).1 _ rfl
    clear D hD xk V
    rw [if_pos (by rfl)];unfold Oper.wp;go_simp
    refine (H qm xn).mono ?_
    rintro e w9 ⟨rfl,xw⟩
    exact ⟨upd f 3 (.agg (yv xm ck L ct F cq ci X cg id xi qty xj xh).toArray),by simp [upd,g2],co (dd (fun _ _ _ _ h=>h) (fun _ _ _ _ h=>h)) (H xy) (H HD) xw (by decide) (db_v rfl (by decide) (by decide))⟩
   | 4,N =>
    obtain rfl:=yb N
    have g0:=(hD 0 (ye D 0 rfl)).1 _ rfl
    have g1:=(hD 1 (ye D 1 rfl)).1 _ rfl
    have g3:=(hD 3 (ye D 3 rfl)).1 _ rfl
    have xt:=M (And.intro (zh (H HO6) xk ya) (zh (H HO8) xk ya))
    have vk:=M (H HE xn (fH (H B8) xk))
    clear D hD xk V
    rw [if_pos (by rfl)];unfold Oper.wp;go_simp
    refine (H HIM xn a5 cp5 q1 (H xt).1 (H xt).2 (H vk)).mono ?_
    rintro e w9 ⟨rfl,xw⟩
    exact ⟨upd f 4 (.tuple #[I ra,I rc]),by simp [upd,g0,g1,g3],co (dd (fun _ _ _ _ h=>h) (fun _ _ _ _ h=>h)) (H xy) (H HD) xw (by decide) (db_v rfl (by decide) (by decide))⟩
   | 5,N =>
    obtain rfl:=yb N
    have g4:=(hD 4 (ye D 4 rfl)).1 _ rfl
    clear D hD xk V
    rw [if_pos (by rfl)];unfold Oper.wp;go_simp
    exact ⟨upd f 5 (.tuple #[I ra,I rc]),by simp [upd,g4],zf (H xy) (H HD) (by decide) (db_v rfl (by decide) (by decide))⟩
   | 6,N =>
    obtain rfl:=yb N
    have g5:=(hD 5 (ye D 5 rfl)).1 _ rfl
    clear D hD xk V
    rw [if_pos (by rfl)];unfold Oper.wp;go_simp
    exact ⟨upd f 6 (I ra),by simp [upd,g5],zf (H xy) (H HD) (by decide) (db_v rfl (by decide) (by decide))⟩
   | 7,N =>
    obtain rfl:=yb N
    have g5:=(hD 5 (ye D 5 rfl)).1 _ rfl
    clear D hD xk V
    rw [if_pos (by rfl)];unfold Oper.wp;go_simp
    exact ⟨upd f 7 (I rc),by simp [upd,g5],zf (H xy) (H HD) (by decide) (db_v rfl (by decide) (by decide))⟩
   | 8,N =>
    obtain rfl:=yb N
    have g6:=(hD 6 (ye D 6 rfl)).1 _ rfl
    clear D hD xk V
    rw [if_pos (by rfl)];unfold Oper.wp;go_simp
    exact ⟨upd f 8 (I ra),by simp [upd,g6],zf (H xy) (H HD) (by decide) (db_v rfl (by decide) (by decide))⟩
   | 9,N =>
    obtain rfl:=yb N
    have g7:=(hD 7 (ye D 7 rfl)).1 _ rfl
    clear D hD xk V
    rw [if_pos (by rfl)];unfold Oper.wp;go_simp
    exact ⟨upd f 9 (I rc),by simp [upd,g7],zf (H xy) (H HD) (by decide) (db_v rfl (by decide) (by decide))⟩
   | i + 10,N=>simp at N
  ·rintro x fG xn ⟨f,rfl,xk,hD⟩ hx xN
   have xo:=bT xN hx (by kernel_rfl)
   have e8:f 8 = I ra:=(hD 8 (xo 8 (by simp))).1 _ rfl
   have e9:f 9 = I rc:=(hD 9 (xo 9 (by simp))).1 _ rfl
   have B9:=M (fH (H B8) xk)
   have HX9:=M (zg (H HX8) xk (by omega))
   have HZ9:=M (zg (H HZ8) xk (H H8))
   have H9:Hid (w6.heap.size < xn.heap.size):=yJ (H H8) xk.size
   have HO6:=M (zh (H HO6) xk ya)
   have HO8:=M (zh (H HO8) xk ya)
   have hz9:w.heap.size < xn.heap.size:=by have:=xk.size; omega
   simp only [e8,e9]
   generalize f 0 = p0,f 1 = p1,f 2 = p2,f 3 = p3,f 4 = p4,f 5 = p5,f 6 = p6,f 7 = p7
   clear hD xo e8 e9 xN hx xk HX8 HY8 HZ8 B8 hz8 HIM H8
   have HR9:=M (zh (H HR) (H B9) ya)
   generalize xn = W9 at *
   go_wp2_with fail
   refine zk (RG W9 (fun f=>{ tmps:=#[.agg #[I n,.slice a l.length cap],.slice a1 es.length qR,.agg (yv xm ck L ct F cq ci X cg id xi qty xj xh).toArray,J w.heap.size 0,Z,J (w.heap.size + 1) 0,.bool false,I y3,I ra,I rc,J w6.heap.size 0,q1,I ra,I rc,.agg #[I n,.slice a l.length cap],I 1048576,I y,I y,.bool (decide (y < 0)),.slice a1 es.length qR,I y,I y2,I y2,.bool (decide (y2 < 0)),.agg (yv xm ck L ct F cq ci X cg id xi qty xj xh).toArray,I y2,I y3,I y3,.bool (decide (y3 < 0)),u7,u0,u1,u2,u3,u4,u5,u6,u8,u9,.agg #[I n,.slice a l.length cap],.agg #[I n,.slice (some a5) l.length cp5],.slice a1 es.length qR,q1,p5,p0,p1,p2,p3,p4,p6,p7,I ra,I ra,.bool false,.bool false,I rc,I rc,.bool false,.bool false,f 0,f 1,f 2,f 3,f 4,Z,Z,Z,Z,Z],defers:=[] }) 99 (DB [some (.agg #[I n,.slice (some a5) l.length cp5]),some (.agg #[I n,.slice a l.length cap]),none,some (.bool true),some (.bool false)] (fun W v=>∃ v2,v = .agg #[I n,v2]∧RdR Od.vs 6 W v2 l) 2 (fun _ _=>True) 99)) (by kernel_rfl) ?_ ?_ ?_
   ·exact ⟨fun _=>Z,rfl,⟨rfl,rfl,rfl,Nat.le_refl _,fun _ _=>rfl⟩,fun j O=>by rw [yI] at O; split at O <;> simp at O⟩
   rotate_left
   ·rintro x fG xn i op ⟨f,rfl,xk,hD⟩ V hx N xq D
    have xy:=M xk
    have HD:=M hD
    match i,N with
    | 0,N =>
     obtain rfl:=yb N
     have z0:=R (zg (H HZ9) xk (H H9)) 0 rfl
     have z1:=R (zg (H HZ9) xk (H H9)) 1 rfl
     clear D hD xk V
     rw [if_pos (by rfl)];unfold Oper.wp;go_simp
     exact ⟨upd f 0 (.agg #[I n,.slice (some a5) l.length cp5]),by simp [upd],zf (H xy) (H HD) (by decide) (db_v rfl (by decide) (by decide))⟩
    | 1,N =>
     obtain rfl:=yb N
     have z0:=R (zg (H HX9) xk hz9) 0 rfl
     have z1:=R (zg (H HX9) xk hz9) 1 rfl
     clear D hD xk V
     rw [if_pos (by rfl)];unfold Oper.wp;go_simp
     exact ⟨upd f 1 (.agg #[I n,.slice a l.length cap]),by simp [upd],zf (H xy) (H HD) (by decide) (db_v rfl (by decide) (by decide))⟩
    | 2,N =>
     obtain rfl:=yb N
     have g1:=(hD 1 (ye D 1 rfl)).1 _ rfl
     have ql:=M (zh (H HR9) xk ya)
     clear D hD xk V
     rw [if_pos (by rfl)];unfold Oper.wp;go_simp
     refine (fj n _ l xn (H ql)).mono ?_
     rintro e w5 ⟨ad,cp9,rfl,ho4,xw⟩
     exact ⟨upd f 2 (.agg #[I n,.slice (some ad) l.length cp9]),by simp [upd,g1],co (dd (H MOC) (fun _ _ _ _ h=>h)) (H xy) (H HD) xw (by decide) (db_a rfl ⟨_,rfl,dJ ho4⟩ (by decide))⟩
    | 3,N =>
     obtain rfl:=yb N
     have g0:=(hD 0 (ye D 0 rfl)).1 _ rfl
     obtain ⟨v9,g2,aM⟩:=(hD 2 (ye D 2 rfl)).2.1 rfl
     have xt:=M (And.intro (zh (H HO6) xk ya) aM)
     clear aM
     clear D hD xk V
     rw [if_pos (by rfl)];unfold Oper.wp;go_simp
     refine (eqBook_same n _ v9 l xn (H xt).1 (H xt).2).mono ?_
     rintro e w5 ⟨rfl,xw⟩
     exact ⟨upd f 3 (.bool true),by simp [upd,g0,g2],co (dd (H MOC) (fun _ _ _ _ h=>h)) (H xy) (H HD) xw (by decide) (db_v rfl (by decide) (by decide))⟩
    | 4,N =>
     obtain rfl:=yb N
     have g3:=(hD 3 (ye D 3 rfl)).1 _ rfl
     clear D hD xk V
     rw [if_pos (by rfl)];unfold Oper.wp;go_simp
     exact ⟨upd f 4 (.bool false),by simp [upd,g3],zf (H xy) (H HD) (by decide) (db_v rfl (by decide) (by decide))⟩
    | i + 5,N=>simp at N
   ·rintro x fG xn ⟨f,rfl,xk,hD⟩ hx xN
    have xo:=bT xN hx (by kernel_rfl)
    have e4:f 4 = .bool false:=(hD 4 (xo 4 (by simp))).1 _ rfl
    have BA:=M (fH (H B9) xk)
    have HO8:=M (zh (H HO8) xk ya)
    simp only [e4]
    generalize f 0 = s0,f 1 = s1,f 2 = s2,f 3 = s3
    clear hD xo e4 xN hx xk HX9 HZ9 B9 hz9 H9
    go_wp2_with fail
    refine (ff _ es xn (zh (H jm) (H BA) ya)).mono ?_
    rintro e wB ⟨q2,rfl,hoB,Y⟩
    have BB:=M (fH (H BA) Y)
    have HO8:=M (zh (H HO8) Y ya)
    have HOB:=M (dJ hoB)
    clear Y hoB
    go_wp2_with fail
    refine (eqEventS_same q1 q2 es wB (H HO8) (H HOB)).mono ?_
    rintro e wC ⟨rfl,Y⟩
    have BC:=M (fH (H BB) Y)
    clear Y
    go_wp2_with fail
    go_ret
    exact ⟨rfl,H BC⟩
end Go.Proofs.YtnphbkgfjanmgaaGreatDoor
