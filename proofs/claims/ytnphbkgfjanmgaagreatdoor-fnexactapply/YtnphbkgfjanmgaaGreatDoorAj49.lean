/-
  The exact law of Apply, walked: it returns true, and nothing that was there is turned.
-/
import Derived.Test.YtnphbkgfjanmgaaGreatDoorAj47
import Derived.Test.YtnphbkgfjanmgaaGreatDoorAj48
set_option linter.unusedVariables false
set_option maxHeartbeats 6400000
set_option maxRecDepth 100000
namespace Go.Proofs.YtnphbkgfjanmgaaGreatDoor
open Go.RowKit
theorem runG_gi:∀ {es:List Ev} {g:Gr},GI g→(∀ e ∈ es,okE e = true)→(runG g es).2 = 0→GI (runG g es).1
 | [],_,h,_,_=>h
 | e :: r,g,h,vr,h0=>by
  by_cases hr:zG g e = 0
  ·rw [runG_go hr] at h0 ⊢
   exact runG_gi (gi_step h (vr e (by simp)) hr) (fun e he=>vr e (by simp [he])) h0
  ·rw [runG_stop hr] at h0
   exact absurd h0 hr
theorem apL_len (next:Int) (l:List Od) (es:List Ev):(apL next l es).length ≤ 21:=by
 unfold apL
 by_cases h:fltC next l es = 0∧apR next l es = 0
 ·rw [if_pos h]
  have h0:(runG (gr0 next l) es).2 = 0:=by
   have:=h.2
   unfold apR at this
   rw [if_neg (not_not_intro h.1)] at this
   by_cases h0:(runG (gr0 next l) es).2 = 0
   ·exact h0
   ·rw [if_neg h0] at this; exact this
  exact (runG_gi (okS_gi (flt_ok h.1).2.1) (flt_ok h.1).2.2 h0).len
 ·rw [if_neg h]; simp
section
variable {α:Type} {f:α→List Value} {sz B lo hi ub b:Nat} {w w':World} {v:Value} {l:List α} {G:Option Nat} {vs:List Value}
theorem own_bd (h:OwnR f sz B w v l):∀ g,v.ownBlock = some g→l ≠ []→B ≤ g∧g < w.heap.size:=fun g hg xA=>by
 obtain ⟨g2,e,N,Y⟩:=ownR_lt h xA
 rw [hg] at e
 cases e
 exact ⟨N,Y⟩
theorem eF (h:OwnR f sz B w v l) (hu:∀ g,v.ownBlock = some g→l ≠ []→B ≤ g∧g < ub) (hg:w.grownBy w' G) (hG:∀ g,G = some g→lo ≤ g∧g < hi) (hd:ub ≤ lo ∨ hi ≤ B):OwnR f sz B w' v l:=ownR_grown h hg fun xA e=>by
 obtain ⟨g,hv,_,_⟩:=ownR_lt h xA
 have N:=hu g hv xA
 have Y:=hG g (e.symm.trans hv)
 omega
theorem cS (h:Bx w b vs) (Q:b < w.heap.size) (hg:w.grownBy w' G) (hG:∀ g,G = some g→lo ≤ g∧g < hi) (hd:b < lo ∨ hi ≤ b):Bx w' b vs:=bx h (hg.block b Q (fun e=>by have:=hG b e.symm; omega))
end
theorem lawApply (n:Int) (a:Option Addr) (len cap:Nat) (a1:Option Addr) (aM pm:Nat) (w:World) (h:(Lit.int .i64 n).wf = true∧IsOrders w a len cap) (N:IsEvents w a1 aM pm) (hE:ErrT w) :
  Calls Tryz.prog 5 #[.agg #[I n,.slice a len cap],.slice a1 aM pm] w fun r w'=>r = yn (.bool true)∧yp w w':=by
 have HIS:Hid (aM ≤ 1073741824→∃ es:List Ev,es.length = aM∧RdR Ev.vs 14 w (.slice a1 aM pm) es∧∀ c ∈ es,c.ok):=N.2
 have HFR:=H (fun W x0 hx0 hx1 hl=>szEventS_far a1 aM pm W x0 hx0 hx1 hl N.1)
 have HE:=H (fun W Q=>dh (w':=W) hE Q yb)
 have HBR:Hid (∀ l es,∃ an al ar ac,apN n l es = an∧apL n l es = al∧apR n l es = ar∧apC n l es = ac∧al.length ≤ 21):=fun l es=>⟨_,_,_,_,rfl,rfl,rfl,rfl,apL_len n l es⟩
 have HS:=H (zq w [I n,.slice a len cap] 24)
 have hS:w.heap.size < (w.alloc (A #[I n,.slice a len cap] 24)).heap.size:=by simp
 have HB:Hid (yp w (w.alloc (A #[I n,.slice a len cap] 24))):=gp _ _
 have qj:Hid (∀ W,yp w W→Calls Tryz.prog 6 #[.agg #[I n,.slice a len cap],I 1048576] W fun e w'=>∃ y:Int,e = yn (I y)∧-1 ≤ y∧y ≤ 1048576∧(0 ≤ y→len ≤ 1048576)∧yp W w'):=fun W Q=>by
  by_cases hl:len ≤ 1048576
  ·obtain ⟨l,rfl,hr,vr⟩:=h.2.2 (by omega)
   refine (szBook_any n _ l W (zi hr Q yb) hl (fun c hc=>(vr c hc).tag)).mono ?_
   rintro e w2 ⟨y,rfl,N,Y,h3⟩
   exact ⟨y,rfl,N,Y,fun _=>hl,h3⟩
  ·refine (szBook_long n a len cap W (by omega) h.2.1).mono ?_
   rintro e w2 ⟨rfl,h3⟩
   exact ⟨-1,rfl,by omega,by omega,fun h=>by omega,h3⟩
 have HOS:Hid (len ≤ 1048576→∃ l:List Od,l.length = len∧RdR Od.vs 6 w (.slice a len cap) l∧∀ c ∈ l,c.ok):=fun hl=>h.2.2 (by omega)
 clear h N hE
 go_enter Tryz.func5,Tryz.ntmps5
 refine gv fun hR HK=>?_
 go_wp2_with fail
 refine U HK _ _ ?_
 clear HK
 generalize (w.alloc (A #[I n,.slice a len cap] 24)) = W1 at HS hS HB ⊢
 have tW1:=hS
 have xS0:=R (U HS) 0 rfl
 have xS1:=R (U HS) 1 rfl
 go_wp2_with fail
 refine (U qj W1 (U HB)).mono ?_
 clear qj xS0 xS1
 rintro e w2 ⟨y,rfl,hy0,hy1,hyl,Q⟩
 have HB:=H (gu (U HB) Q)
 have sw2:W1.heap.size ≤ w2.heap.size:=Q.size
 have HS:=H (zf (U HS) Q hS)
 have hS:w.heap.size < w2.heap.size:=yK hS Q.size
 clear Q
 by_cases hy:y < 0
 ·clear hyl
  go_wp2_with fail
  go_ret
  exact ⟨rfl,U HB⟩
 obtain ⟨l,hll,hrl,vr⟩:=U HOS (hyl (by omega))
 subst hll
 have HR:=H hrl
 have HG:Hid (∀ c ∈ l,c.tag.size ≤ maxLen):=fun c hc=>(vr c hc).tag
 have hl:=hyl (by omega)
 clear hyl hrl vr HOS
 by_cases hey:(aM:Int) ≤ y
 case neg =>
  go_wp2_with fail
  refine (U HFR w2 y (by omega) (by omega) (by omega)).mono ?_
  rintro e w3 ⟨rfl,pg⟩
  rw [pg]
  go_wp2_with fail
  go_ret
  exact ⟨rfl,U HB⟩
 obtain ⟨es,rfl,jq,hek⟩:=U HIS (by omega)
 have jr:=H jq
 have HEF:Hid (∀ c ∈ es,c.fit):=fun c hc=>(hek c hc).fit
 clear jq hek HIS HFR
 go_wp2_with fail
 refine (szEventS_at _ es w2 (zi (U jr) (U HB) yb) y (by omega) (by omega) hey (fun c hc=>(U HEF c hc).g)).mono ?_
 rintro e w3 ⟨y2,rfl,hy2,Q⟩
 have HB:=H (gu (U HB) Q)
 have sw3:w2.heap.size ≤ w3.heap.size:=Q.size
 have HS:=H (zf (U HS) Q hS)
 have hS:w.heap.size < w3.heap.size:=yK hS Q.size
 clear Q
 have hel:es.length ≤ 1048576:=by omega
 clear hey
 by_cases hyb:y2 < 0
 ·go_wp2_with fail
  go_ret
  exact ⟨rfl,U HB⟩
 obtain ⟨an,al,ar,ac,h0,N,Y,h3,hal⟩:=U HBR l es
 have HSP:=H (fun W ad O x N Y=>specApply_any n (.slice (some ad) l.length O) l x es W N (.inr ⟨_,_,_,rfl⟩) (U HG) Y (U HEF))
 have HIM:=H (fun W ad O x N Y h3=>implApply_any n (.slice (some ad) l.length O) l x es W N (.inr ⟨_,_,_,rfl⟩) (U HG) Y (U HEF) h3)
 rw [h0,N,Y,h3] at HSP HIM
 unfold ApE at HSP HIM
 clear h0 N Y h3 HBR hy0 hy1 hy2
 have xS0:=R (U HS) 0 rfl
 have xS1:=R (U HS) 1 rfl
 go_wp2_with fail
 refine (fD n _ l w3 (zi (U HR) (U HB) yb)).mono ?_
 rintro e w4 ⟨ad,cp9,rfl,Z,Q⟩
 have qX:=H (bW Z)
 clear Z
 clear xS0 xS1
 have HB:=H (gu (U HB) Q)
 have sw4:w3.heap.size ≤ w4.heap.size:=Q.size
 have HS:=H (zf (U HS) Q hS)
 have hS:w.heap.size < w4.heap.size:=yK hS Q.size
 clear Q
 go_wp2_with fail
 refine (fq _ es w4 (zi (U jr) (U HB) yb)).mono ?_
 rintro e w5 ⟨xx,rfl,Z,Q⟩
 have qS:=H (And.intro (zi (U qX) Q yb) (bW Z))
 clear Z qX
 have HB:=H (gu (U HB) Q)
 have sw5:w4.heap.size ≤ w5.heap.size:=Q.size
 have HS:=H (zf (U HS) Q hS)
 have hS:w.heap.size < w5.heap.size:=yK hS Q.size
 clear Q
 go_wp2_with fail
 refine (U HSP w5 ad cp9 xx (U qS).1 (U qS).2).mono ?_
 rintro e w6 ⟨vP,rfl,Z,Q⟩
 obtain ⟨pa,pc,rfl⟩:=cA (zI Z (yO hal (by decide)))
 clear qS HSP
 have RP:=H (dP Od.len (yO hal (by decide)) Z)
 have UP:=H (own_bd (U RP))
 clear Z
 have HB:=H (gu (U HB) Q)
 have sw6:w5.heap.size ≤ w6.heap.size:=Q.size
 have HS:=H (zf (U HS) Q hS)
 have hS:w.heap.size < w6.heap.size:=yK hS Q.size
 clear Q
 obtain ⟨Q,vU⟩:=gw w6 [I an,.slice pa al.length pc] 34
 have uI:w6.heap.size < (w6.alloc (A #[I an,.slice pa al.length pc] 34)).heap.size:=by simp
 have HE:=H Q
 clear Q
 have xS0:=R (zf (U HS) (U HE) hS) 0 rfl
 have xS1:=R (zf (U HS) (U HE) hS) 1 rfl
 go_wp2_with fail
 generalize (w6.alloc (A #[I an,.slice pa al.length pc] 34)) = W7 at vU uI HE xS0 xS1 ⊢
 have tW7:=uI
 have Q:=U HE
 clear HE
 have HB:=H (gu (U HB) Q)
 have sW7:w6.heap.size ≤ W7.heap.size:=Q.size
 have HS:=H (zf (U HS) Q hS)
 have hS:w.heap.size < W7.heap.size:=yK hS Q.size
 have RP:=H (zr (U RP) Q yb)
 clear Q
 refine (fD n _ l W7 (zi (U HR) (U HB) yb)).mono ?_
 rintro e w8 ⟨a5,cp5,rfl,Z,Q⟩
 clear xS0 xS1
 have RX:=H (Z)
 have UX:=H (own_bd (U RX))
 clear Z
 have HB:=H (gu (U HB) Q)
 have sw8:W7.heap.size ≤ w8.heap.size:=Q.size
 have HS:=H (zf (U HS) Q hS)
 have hS:w.heap.size < w8.heap.size:=yK hS Q.size
 have vU:=H (zf (U vU) Q uI)
 have uI:w6.heap.size < w8.heap.size:=yK uI Q.size
 have RP:=H (zr (U RP) Q yb)
 clear Q
 obtain ⟨Q,HZ⟩:=gw w8 [I n,.slice (some a5) l.length cp5] 34
 have hZ:w8.heap.size < (w8.alloc (A #[I n,.slice (some a5) l.length cp5] 34)).heap.size:=by simp
 have HE:=H Q
 clear Q
 go_wp2_with fail
 generalize (w8.alloc (A #[I n,.slice (some a5) l.length cp5] 34)) = W9 at HZ hZ HE  ⊢
 have tW9:=hZ
 have Q:=U HE
 clear HE
 have HB:=H (gu (U HB) Q)
 have sW9:w8.heap.size ≤ W9.heap.size:=Q.size
 have HS:=H (zf (U HS) Q hS)
 have hS:w.heap.size < W9.heap.size:=yK hS Q.size
 have vU:=H (zf (U vU) Q uI)
 have uI:w6.heap.size < W9.heap.size:=yK uI Q.size
 have RP:=H (zr (U RP) Q yb)
 have RX:=H (zr (U RX) Q yb)
 clear Q
 refine (fq _ es W9 (zi (U jr) (U HB) yb)).mono ?_
 rintro e w10 ⟨q1,rfl,Z,Q⟩
 have RE:=H (Z)
 have UE:=H (own_bd (U RE))
 clear Z
 have HB:=H (gu (U HB) Q)
 have sw10:W9.heap.size ≤ w10.heap.size:=Q.size
 have HS:=H (zf (U HS) Q hS)
 have hS:w.heap.size < w10.heap.size:=yK hS Q.size
 have vU:=H (zf (U vU) Q uI)
 have uI:w6.heap.size < w10.heap.size:=yK uI Q.size
 have HZ:=H (zf (U HZ) Q hZ)
 have hZ:w8.heap.size < w10.heap.size:=yK hZ Q.size
 have RP:=H (zr (U RP) Q yb)
 have RX:=H (zr (U RX) Q yb)
 clear Q
 have xZ0:=R (U HZ) 0 rfl
 have xZ1:=R (U HZ) 1 rfl
 go_wp2_with fail
 refine (U HIM w10 a5 cp5 q1 (bW (U RX)) (bW (U RE)) (U HE w10 (U HB))).mono ?_
 rintro e jv ⟨vQ,rfl,Z,Q⟩
 obtain ⟨qa,qc,rfl⟩:=cA (zI Z (yO hal (by decide)))
 clear xZ0 xZ1
 have RQ:=H (dP Od.len (yO hal (by decide)) Z)
 have UQ:=H (own_bd (U RQ))
 clear Z
 have HB:=H (gu (U HB) Q)
 have sw11:w10.heap.size ≤ jv.heap.size:=Q.size
 have HS:=H (zf (U HS) Q hS)
 have hS:w.heap.size < jv.heap.size:=yK hS Q.size
 have vU:=H (zf (U vU) Q uI)
 have uI:w6.heap.size < jv.heap.size:=yK uI Q.size
 have HZ:=H (zf (U HZ) Q hZ)
 have hZ:w8.heap.size < jv.heap.size:=yK hZ Q.size
 have RP:=H (zr (U RP) Q yb)
 have RX:=H (zr (U RX) Q yb)
 have RE:=H (zr (U RE) Q yb)
 clear Q
 obtain ⟨Q,qm⟩:=gw jv [I an,.slice qa al.length qc] 34
 have qb:jv.heap.size < (jv.alloc (A #[I an,.slice qa al.length qc] 34)).heap.size:=by simp
 have HE:=H Q
 clear Q
 have aO:=R (zf (U vU) (U HE) uI) 0 rfl
 have aP:=R (zf (U vU) (U HE) uI) 1 rfl
 have oK:=R (U qm) 0 rfl
 have oL:=R (U qm) 1 rfl
 go_wp2_with fail
 generalize (jv.alloc (A #[I an,.slice qa al.length qc] 34)) = W12 at qm qb HE aO aP oK oL ⊢
 have tW12:=qb
 have Q:=U HE
 clear HE
 have HB:=H (gu (U HB) Q)
 have sW12:jv.heap.size ≤ W12.heap.size:=Q.size
 have HS:=H (zf (U HS) Q hS)
 have hS:w.heap.size < W12.heap.size:=yK hS Q.size
 have vU:=H (zf (U vU) Q uI)
 have uI:w6.heap.size < W12.heap.size:=yK uI Q.size
 have HZ:=H (zf (U HZ) Q hZ)
 have hZ:w8.heap.size < W12.heap.size:=yK hZ Q.size
 have RP:=H (zr (U RP) Q yb)
 have RX:=H (zr (U RX) Q yb)
 have RE:=H (zr (U RE) Q yb)
 have RQ:=H (zr (U RQ) Q yb)
 clear Q
 refine (fw an _ _ al W12 (bW (U RQ)) (bW (U RP))).mono ?_
 rintro e w13 ⟨rfl,Q⟩
 clear aO aP oK oL
 have HB:=H (gu (U HB) Q)
 have sw13:W12.heap.size ≤ w13.heap.size:=Q.size
 have HS:=H (zf (U HS) Q hS)
 have hS:w.heap.size < w13.heap.size:=yK hS Q.size
 have vU:=H (zf (U vU) Q uI)
 have uI:w6.heap.size < w13.heap.size:=yK uI Q.size
 have HZ:=H (zf (U HZ) Q hZ)
 have hZ:w8.heap.size < w13.heap.size:=yK hZ Q.size
 have qm:=H (zf (U qm) Q qb)
 have qb:jv.heap.size < w13.heap.size:=yK qb Q.size
 have RP:=H (zr (U RP) Q yb)
 have RX:=H (zr (U RX) Q yb)
 have RE:=H (zr (U RE) Q yb)
 have RQ:=H (zr (U RQ) Q yb)
 clear Q
 have HR9:=H (zi (U HR) (U HB) yb)
 have HO6:=H (bW (U RX))
 have MOC:Hid (∀ (W W2:World) (v:Value),yp W W2→(fun W v=>∃ v2,v = .agg #[I n,v2]∧RdR Od.vs 6 W v2 l) W v→(fun W v=>∃ v2,v = .agg #[I n,v2]∧RdR Od.vs 6 W v2 l) W2 v):=fun W W2 v Q h=>by obtain ⟨v2,N,Y⟩:=h; exact ⟨v2,N,zi Y Q yb⟩
 go_wp2_with fail
 refine zn (RG w13 (fun f=>{ tmps:=#[.agg #[I n,.slice a l.length cap],.slice a1 es.length pm,yq w 0,M,.bool false,I y2,yq w6 0,I ar,I ac,yq w8 0,q1,yq jv 0,I ar,I ac,M,M,M,M,M,M,.agg #[I n,.slice a l.length cap],I 1048576,I y,I y,.bool (decide (y < 0)),.slice a1 es.length pm,I y,I y2,I y2,.bool (decide (y2 < 0)),.tuple #[.agg #[I an,.slice pa al.length pc],I ar,I ac],.agg #[I n,.slice a l.length cap],.agg #[I n,.slice (some ad) l.length cp9],.slice a1 es.length pm,xx,.tuple #[.agg #[I an,.slice pa al.length pc],I ar,I ac],.agg #[I an,.slice pa al.length pc],I ar,I ac,.agg #[I n,.slice a l.length cap],.agg #[I n,.slice (some a5) l.length cp5],.slice a1 es.length pm,q1,.tuple #[.agg #[I an,.slice qa al.length qc],I ar,I ac],.agg #[I n,.slice (some a5) l.length cp5],q1,.tuple #[.agg #[I an,.slice qa al.length qc],I ar,I ac],.agg #[I an,.slice qa al.length qc],I ar,I ac,.agg #[I an,.slice qa al.length qc],.agg #[I an,.slice pa al.length pc],.bool true,.bool false,.bool false,I ar,I ar,.bool false,.bool false,.bool false,I ac,I ac,.bool false,.bool false,f 0,f 1,f 2,f 3,f 4,M,M,M,M,M,M,M,M,M,M,M,M,M,M,M,M,M,M,M,M,M,M,M,M,M,M,M,M,M,M,M,M,M,M,M,M,M,M,M,M,M,M,M,M,M,M,M,M,M,M,M,M,M,M,M,M,M,M,M,M,M,M,M,M,M,M,M,M,M,M,M],defers:=[] }) 99 (DB [some (.agg #[I n,.slice (some a5) l.length cp5]),some (.agg #[I n,.slice a l.length cap]),none,some (.bool true),some (.bool false)] (fun W v=>∃ v2,v = .agg #[I n,v2]∧RdR Od.vs 6 W v2 l) 2 (fun _ _=>True) 99)) (by kernel_rfl) ?_ ?_ ?_
 ·exact ⟨fun _=>M,rfl,⟨rfl,rfl,rfl,Nat.le_refl _,fun _ _=>rfl⟩,fun j X=>by rw [yJ] at X; split at X <;> simp at X⟩
 rotate_left
 ·rintro x gs cl i op ⟨f,rfl,xl,hD⟩ F hx Z xt E
  have xE:=H xl
  have HD:=H hD
  match i,Z with
  | 0,Z =>
   obtain rfl:=yc Z
   have z0:=R (zf (U HZ) xl hZ) 0 rfl
   have z1:=R (zf (U HZ) xl hZ) 1 rfl
   clear E hD xl F
   rw [if_pos (by rfl)];unfold Oper.wp;go_simp
   exact ⟨upd f 0 (.agg #[I n,.slice (some a5) l.length cp5]),by simp [upd],zg (U xE) (U HD) (by decide) (db_v rfl (by decide) (by decide))⟩
  | 1,Z =>
   obtain rfl:=yc Z
   have z0:=R (zf (U HS) xl hS) 0 rfl
   have z1:=R (zf (U HS) xl hS) 1 rfl
   clear E hD xl F
   rw [if_pos (by rfl)];unfold Oper.wp;go_simp
   exact ⟨upd f 1 (.agg #[I n,.slice a l.length cap]),by simp [upd],zg (U xE) (U HD) (by decide) (db_v rfl (by decide) (by decide))⟩
  | 2,Z =>
   obtain rfl:=yc Z
   have g1:=(hD 1 (yf E 1 rfl)).1 _ rfl
   have qJ:=H (zi (U HR9) xl yb)
   clear E hD xl F
   rw [if_pos (by rfl)];unfold Oper.wp;go_simp
   refine (fD n _ l cl (U qJ)).mono ?_
   rintro e w5 ⟨ad,cp9,rfl,ho4,xy⟩
   exact ⟨upd f 2 (.agg #[I n,.slice (some ad) l.length cp9]),by simp [upd,g1],rg_grow (db_mono (U MOC) (fun _ _ _ _ h=>h)) (U xE) (U HD) xy (by decide) (db_a rfl ⟨_,rfl,bW ho4⟩ (by decide))⟩
  | 3,Z =>
   obtain rfl:=yc Z
   have g0:=(hD 0 (yf E 0 rfl)).1 _ rfl
   obtain ⟨v9,g2,bi⟩:=(hD 2 (yf E 2 rfl)).2.1 rfl
   have xu:=H (And.intro (zi (U HO6) xl yb) bi)
   clear bi
   clear E hD xl F
   rw [if_pos (by rfl)];unfold Oper.wp;go_simp
   refine (fw n _ v9 l cl (U xu).1 (U xu).2).mono ?_
   rintro e w5 ⟨rfl,xy⟩
   exact ⟨upd f 3 (.bool true),by simp [upd,g0,g2],rg_grow (db_mono (U MOC) (fun _ _ _ _ h=>h)) (U xE) (U HD) xy (by decide) (db_v rfl (by decide) (by decide))⟩
  | 4,Z =>
   obtain rfl:=yc Z
   have g3:=(hD 3 (yf E 3 rfl)).1 _ rfl
   clear E hD xl F
   rw [if_pos (by rfl)];unfold Oper.wp;go_simp
   exact ⟨upd f 4 (.bool false),by simp [upd,g3],zg (U xE) (U HD) (by decide) (db_v rfl (by decide) (by decide))⟩
  | i + 5,Z=>simp at Z
 ·rintro x gs cl ⟨f,rfl,xl,hD⟩ hx xO
  have xq:=cP xO hx (by kernel_rfl)
  have e4:f 4 = .bool false:=(hD 4 (xq 4 (by simp))).1 _ rfl
  have Q:=xl
  have HB:=H (gu (U HB) Q)
  have sV:w13.heap.size ≤ cl.heap.size:=Q.size
  have HS:=H (zf (U HS) Q hS)
  have hS:w.heap.size < cl.heap.size:=yK hS Q.size
  have vU:=H (zf (U vU) Q uI)
  have uI:w6.heap.size < cl.heap.size:=yK uI Q.size
  have HZ:=H (zf (U HZ) Q hZ)
  have hZ:w8.heap.size < cl.heap.size:=yK hZ Q.size
  have qm:=H (zf (U qm) Q qb)
  have qb:jv.heap.size < cl.heap.size:=yK qb Q.size
  have RP:=H (zr (U RP) Q yb)
  have RX:=H (zr (U RX) Q yb)
  have RE:=H (zr (U RE) Q yb)
  have RQ:=H (zr (U RQ) Q yb)
  clear Q
  simp only [e4]
  generalize f 0 = s0,f 1 = s1,f 2 = s2,f 3 = s3
  clear hD xq e4 xO hx xl HO6 HR9 MOC
  go_wp2_with fail
  refine (fq _ es cl (zi (U jr) (U HB) yb)).mono ?_
  rintro e w15 ⟨q2,rfl,Z,Q⟩
  have qS:=H (bW Z)
  clear Z
  have HB:=H (gu (U HB) Q)
  have sw15:cl.heap.size ≤ w15.heap.size:=Q.size
  have HS:=H (zf (U HS) Q hS)
  have hS:w.heap.size < w15.heap.size:=yK hS Q.size
  have vU:=H (zf (U vU) Q uI)
  have uI:w6.heap.size < w15.heap.size:=yK uI Q.size
  have HZ:=H (zf (U HZ) Q hZ)
  have hZ:w8.heap.size < w15.heap.size:=yK hZ Q.size
  have qm:=H (zf (U qm) Q qb)
  have qb:jv.heap.size < w15.heap.size:=yK qb Q.size
  have RP:=H (zr (U RP) Q yb)
  have RX:=H (zr (U RX) Q yb)
  have RE:=H (zr (U RE) Q yb)
  have RQ:=H (zr (U RQ) Q yb)
  clear Q
  go_wp2_with fail
  refine (eqEventS_same q1 q2 es w15 (bW (U RE)) (U qS)).mono ?_
  rintro e w16 ⟨rfl,Q⟩
  clear qS
  have HB:=H (gu (U HB) Q)
  have sw16:w15.heap.size ≤ w16.heap.size:=Q.size
  have HS:=H (zf (U HS) Q hS)
  have hS:w.heap.size < w16.heap.size:=yK hS Q.size
  have vU:=H (zf (U vU) Q uI)
  have uI:w6.heap.size < w16.heap.size:=yK uI Q.size
  have HZ:=H (zf (U HZ) Q hZ)
  have hZ:w8.heap.size < w16.heap.size:=yK hZ Q.size
  have qm:=H (zf (U qm) Q qb)
  have qb:jv.heap.size < w16.heap.size:=yK qb Q.size
  have RP:=H (zr (U RP) Q yb)
  have RX:=H (zr (U RX) Q yb)
  have RE:=H (zr (U RE) Q yb)
  have RQ:=H (zr (U RQ) Q yb)
  clear Q
  have xZ0:=R (U HZ) 0 rfl
  have xZ1:=R (U HZ) 1 rfl
  go_wp2_with fail
  refine (gk n _ l w16 (U RX) (by omega)).mono ?_
  rintro e w17 ⟨rfl,-,G,um,hG⟩
  clear xZ0 xZ1
  have jE:∀ g,G = some g→W7.heap.size ≤ g∧g < w8.heap.size:=fun g hg=>U UX g (hG g hg).1 (hG g hg).2.2
  have HB:=H ((U HB).grown um (U HB).size (fun g hg=>by have:=jE g hg; omega))
  have HS:=H (cS (U HS) hS um jE (by omega))
  have hS:w.heap.size < w17.heap.size:=yK hS um.size
  have vU:=H (cS (U vU) uI um jE (by omega))
  have uI:w6.heap.size < w17.heap.size:=yK uI um.size
  have HZ:=H (cS (U HZ) hZ um jE (by omega))
  have hZ:w8.heap.size < w17.heap.size:=yK hZ um.size
  have qm:=H (cS (U qm) qb um jE (by omega))
  have qb:jv.heap.size < w17.heap.size:=yK qb um.size
  have RP:=H (eF (U RP) (U UP) um jE (by omega))
  have RE:=H (eF (U RE) (U UE) um jE (by omega))
  have RQ:=H (eF (U RQ) (U UQ) um jE (by omega))
  clear um hG jE
  go_wp2_with fail
  refine (markE_own q1 es (1 + 6 * l.length) w17 (U RE) (by omega) (by omega) (by omega)).mono ?_
  rintro e w18 ⟨rfl,-,G,um,hG⟩
  have jE:∀ g,G = some g→W9.heap.size ≤ g∧g < w10.heap.size:=fun g hg=>U UE g (hG g hg).1 (hG g hg).2.2
  have HB:=H ((U HB).grown um (U HB).size (fun g hg=>by have:=jE g hg; omega))
  have HS:=H (cS (U HS) hS um jE (by omega))
  have hS:w.heap.size < w18.heap.size:=yK hS um.size
  have vU:=H (cS (U vU) uI um jE (by omega))
  have uI:w6.heap.size < w18.heap.size:=yK uI um.size
  have HZ:=H (cS (U HZ) hZ um jE (by omega))
  have hZ:w8.heap.size < w18.heap.size:=yK hZ um.size
  have qm:=H (cS (U qm) qb um jE (by omega))
  have qb:jv.heap.size < w18.heap.size:=yK qb um.size
  have RP:=H (eF (U RP) (U UP) um jE (by omega))
  have RQ:=H (eF (U RQ) (U UQ) um jE (by omega))
  clear um hG jE
  have hng:¬ (((1 + 6 * l.length + 14 * es.length:Nat):Int) < 0):=by omega
  have aO:=R (U vU) 0 rfl
  have aP:=R (U vU) 1 rfl
  have oK:=R (U qm) 0 rfl
  have oL:=R (U qm) 1 rfl
  go_wp2_with fail
  refine (fw an _ _ al w18 (bW (U RQ)) (bW (U RP))).mono ?_
  rintro e w19 ⟨rfl,Q⟩
  clear aO aP oK oL
  have HB:=H (gu (U HB) Q)
  have sw19:w18.heap.size ≤ w19.heap.size:=Q.size
  have HS:=H (zf (U HS) Q hS)
  have hS:w.heap.size < w19.heap.size:=yK hS Q.size
  have vU:=H (zf (U vU) Q uI)
  have uI:w6.heap.size < w19.heap.size:=yK uI Q.size
  have HZ:=H (zf (U HZ) Q hZ)
  have hZ:w8.heap.size < w19.heap.size:=yK hZ Q.size
  have qm:=H (zf (U qm) Q qb)
  have qb:jv.heap.size < w19.heap.size:=yK qb Q.size
  have RP:=H (zr (U RP) Q yb)
  have RQ:=H (zr (U RQ) Q yb)
  clear Q
  have oK:=R (U qm) 0 rfl
  have oL:=R (U qm) 1 rfl
  go_wp2_with fail
  refine (gk an _ al w19 (U RQ) (by omega)).mono ?_
  rintro e w20 ⟨rfl,hmk,G,um,hG⟩
  have RM:=H hmk
  clear hmk
  clear oK oL
  have jE:∀ g,G = some g→w10.heap.size ≤ g∧g < jv.heap.size:=fun g hg=>U UQ g (hG g hg).1 (hG g hg).2.2
  have HB:=H ((U HB).grown um (U HB).size (fun g hg=>by have:=jE g hg; omega))
  have HS:=H (cS (U HS) hS um jE (by omega))
  have hS:w.heap.size < w20.heap.size:=yK hS um.size
  have vU:=H (cS (U vU) uI um jE (by omega))
  have uI:w6.heap.size < w20.heap.size:=yK uI um.size
  have HZ:=H (cS (U HZ) hZ um jE (by omega))
  have hZ:w8.heap.size < w20.heap.size:=yK hZ um.size
  have qm:=H (cS (U qm) qb um jE (by omega))
  have qb:jv.heap.size < w20.heap.size:=yK qb um.size
  have RP:=H (eF (U RP) (U UP) um jE (by omega))
  clear um hG jE
  have hn2:¬ (((1 + 6 * al.length:Nat):Int) < 0):=by omega
  have oK:=R (U qm) 0 rfl
  have oL:=R (U qm) 1 rfl
  go_wp2_with fail
  refine (heldBook_any an _ al.length 1 w20 (by omega) (by omega) (by omega) (bW (U RM))).mono ?_
  rintro e w21 ⟨rfl,Q⟩
  clear oK oL
  have HB:=H (gu (U HB) Q)
  have sw21:w20.heap.size ≤ w21.heap.size:=Q.size
  have HS:=H (zf (U HS) Q hS)
  have hS:w.heap.size < w21.heap.size:=yK hS Q.size
  have vU:=H (zf (U vU) Q uI)
  have uI:w6.heap.size < w21.heap.size:=yK uI Q.size
  have HZ:=H (zf (U HZ) Q hZ)
  have hZ:w8.heap.size < w21.heap.size:=yK hZ Q.size
  have qm:=H (zf (U qm) Q qb)
  have qb:jv.heap.size < w21.heap.size:=yK qb Q.size
  have RP:=H (zr (U RP) Q yb)
  have RM:=H (zr (U RM) Q yb)
  clear Q
  have xS0:=R (U HS) 0 rfl
  have xS1:=R (U HS) 1 rfl
  go_wp2_with fail
  refine (fD n _ l w21 (zi (U HR) (U HB) yb)).mono ?_
  rintro e w22 ⟨ae,cpe,rfl,Z,Q⟩
  have qX:=H (bW Z)
  clear Z
  clear xS0 xS1
  have HB:=H (gu (U HB) Q)
  have sw22:w21.heap.size ≤ w22.heap.size:=Q.size
  have HS:=H (zf (U HS) Q hS)
  have hS:w.heap.size < w22.heap.size:=yK hS Q.size
  have vU:=H (zf (U vU) Q uI)
  have uI:w6.heap.size < w22.heap.size:=yK uI Q.size
  have HZ:=H (zf (U HZ) Q hZ)
  have hZ:w8.heap.size < w22.heap.size:=yK hZ Q.size
  have qm:=H (zf (U qm) Q qb)
  have qb:jv.heap.size < w22.heap.size:=yK qb Q.size
  have RP:=H (zr (U RP) Q yb)
  have RM:=H (zr (U RM) Q yb)
  clear Q
  go_wp2_with fail
  refine (fq _ es w22 (zi (U jr) (U HB) yb)).mono ?_
  rintro e w23 ⟨x9,rfl,Z,Q⟩
  have qS:=H (And.intro (zi (U qX) Q yb) (bW Z))
  clear Z qX
  have HB:=H (gu (U HB) Q)
  have sw23:w22.heap.size ≤ w23.heap.size:=Q.size
  have HS:=H (zf (U HS) Q hS)
  have hS:w.heap.size < w23.heap.size:=yK hS Q.size
  have vU:=H (zf (U vU) Q uI)
  have uI:w6.heap.size < w23.heap.size:=yK uI Q.size
  have HZ:=H (zf (U HZ) Q hZ)
  have hZ:w8.heap.size < w23.heap.size:=yK hZ Q.size
  have qm:=H (zf (U qm) Q qb)
  have qb:jv.heap.size < w23.heap.size:=yK qb Q.size
  have RP:=H (zr (U RP) Q yb)
  have RM:=H (zr (U RM) Q yb)
  clear Q
  go_wp2_with fail
  refine (U HIM w23 ae cpe x9 (U qS).1 (U qS).2 (U HE w23 (U HB))).mono ?_
  rintro e bp ⟨vR,rfl,Z,Q⟩
  obtain ⟨ra,rc,rfl⟩:=cA (zI Z (yO hal (by decide)))
  have RR:=H (dP Od.len (yO hal (by decide)) Z)
  clear Z qS
  have HB:=H (gu (U HB) Q)
  have sw24:w23.heap.size ≤ bp.heap.size:=Q.size
  have HS:=H (zf (U HS) Q hS)
  have hS:w.heap.size < bp.heap.size:=yK hS Q.size
  have vU:=H (zf (U vU) Q uI)
  have uI:w6.heap.size < bp.heap.size:=yK uI Q.size
  have HZ:=H (zf (U HZ) Q hZ)
  have hZ:w8.heap.size < bp.heap.size:=yK hZ Q.size
  have qm:=H (zf (U qm) Q qb)
  have qb:jv.heap.size < bp.heap.size:=yK qb Q.size
  have RP:=H (zr (U RP) Q yb)
  have RM:=H (zr (U RM) Q yb)
  clear Q
  have Q:=gp bp (A #[I an,.slice ra al.length rc] 34)
  have HT_:=H (zq bp [I an,.slice ra al.length rc] 34)
  have hT_:bp.heap.size < (bp.alloc (A #[I an,.slice ra al.length rc] 34)).heap.size:=by simp
  have HE:=H Q
  clear Q
  have aO:=R (zf (U vU) (U HE) uI) 0 rfl
  have aP:=R (zf (U vU) (U HE) uI) 1 rfl
  have xT_0:=R (U HT_) 0 rfl
  have xT_1:=R (U HT_) 1 rfl
  go_wp2_with fail
  generalize (bp.alloc (A #[I an,.slice ra al.length rc] 34)) = W25 at HT_ hT_ HE aO aP xT_0 xT_1 ⊢
  have tW25:=hT_
  have Q:=U HE
  clear HE
  have HB:=H (gu (U HB) Q)
  have sW25:bp.heap.size ≤ W25.heap.size:=Q.size
  have HS:=H (zf (U HS) Q hS)
  have hS:w.heap.size < W25.heap.size:=yK hS Q.size
  have vU:=H (zf (U vU) Q uI)
  have uI:w6.heap.size < W25.heap.size:=yK uI Q.size
  have HZ:=H (zf (U HZ) Q hZ)
  have hZ:w8.heap.size < W25.heap.size:=yK hZ Q.size
  have qm:=H (zf (U qm) Q qb)
  have qb:jv.heap.size < W25.heap.size:=yK qb Q.size
  have RP:=H (zr (U RP) Q yb)
  have RM:=H (zr (U RM) Q yb)
  have RR:=H (zr (U RR) Q yb)
  clear Q
  refine (fw an _ _ al W25 (bW (U RR)) (bW (U RP))).mono ?_
  rintro e w26 ⟨rfl,Q⟩
  clear aO aP xT_0 xT_1
  have HB:=H (gu (U HB) Q)
  have sw26:W25.heap.size ≤ w26.heap.size:=Q.size
  have HS:=H (zf (U HS) Q hS)
  have hS:w.heap.size < w26.heap.size:=yK hS Q.size
  have vU:=H (zf (U vU) Q uI)
  have uI:w6.heap.size < w26.heap.size:=yK uI Q.size
  have HZ:=H (zf (U HZ) Q hZ)
  have hZ:w8.heap.size < w26.heap.size:=yK hZ Q.size
  have qm:=H (zf (U qm) Q qb)
  have qb:jv.heap.size < w26.heap.size:=yK qb Q.size
  have HT_:=H (zf (U HT_) Q hT_)
  have hT_:bp.heap.size < w26.heap.size:=yK hT_ Q.size
  have RP:=H (zr (U RP) Q yb)
  have RM:=H (zr (U RM) Q yb)
  have RR:=H (zr (U RR) Q yb)
  clear Q
  have oK:=R (U qm) 0 rfl
  have oL:=R (U qm) 1 rfl
  go_wp2_with fail
  refine (heldBook_any an _ al.length 1 w26 (by omega) (by omega) (by omega) (bW (U RM))).mono ?_
  rintro e w27 ⟨rfl,Q⟩
  have HB:=H (gu (U HB) Q)
  clear Q
  go_wp2_with fail
  go_ret
  exact ⟨rfl,U HB⟩
end Go.Proofs.YtnphbkgfjanmgaaGreatDoor
