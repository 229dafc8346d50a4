/-
  A script run, by the model: proved by walking the function.
-/
import Derived.Test.YtbakanofkghmiaaGreatQj45
set_option linter.unusedVariables false
set_option maxHeartbeats 6400000
set_option maxRecDepth 100000
namespace Go.Proofs.YtbakanofkghmiaaGreat
open Go.RowKit
theorem lg_tot {w W:World} {gv:Value} {gs:List Value} {vq:Value} {n:Int} {l:List Od} {g:List (List Ev)} {t:Tot} (t':Tot) (h:LG w W gv gs vq ⟨n,l,g,t⟩):LG w W gv gs vq ⟨n,l,g,t'⟩:=⟨h.r,h.t,h.o,h.bx,h.g,h.gl,h.ge,h.q,h.b,h.z⟩
theorem run_few (cs:List Cm) (h:cs.length ≤ 200):∀ k,k ≤ cs.length→∀ es ∈ (runS (cs.take k)).g,es.length ≤ 100:=by
 intro k
 induction k with
 | zero=>intro _ es uS; simp [runS] at uS
 | succ k ih =>
  intro hk es uS
  obtain ⟨c,hc⟩:∃ c,cs[k]? = some c:=⟨_,yI (by omega)⟩
  have hi:=(da cs h k (by omega)).1
  have ih:=ih (by omega)
  rw [cZ cs hc] at uS
  generalize runS (cs.take k) = s at hi ih uS
  rcases List.mem_append.1 (show es ∈ s.g ++ [stE s.n s.l c] from uS) with Q | Q
  ·exact ih es Q
  ·rw [List.mem_singleton.1 Q]; exact stE_len hi.good
theorem l04Run_any (v:Value) (cs:List Cm) (w:World) (hr:RdR Cm.vs 8 w v cs) (kQ:∀ c ∈ cs,c.g.size ≤ maxLen) (ju:cs.length ≤ 200) :
  Calls Tryz.prog 34 #[v] w fun e w'=>∃ gv vq,e = ym (.agg #[gv,H (rsF cs).n,vq,H (rsF cs).t.gr,H (rsF cs).t.ac,H (rsF cs).t.rf,H (rsF cs).t.tr,H (rsF cs).t.vo,H (rsF cs).t.no,H (rsF cs).t.li,H (rsF cs).t.le])∧GRs w' w.heap.size gv (rsF cs).g∧ORow w' w.heap.size vq (rsF cs).l∧yn w w':=by
 have qn:=Y kQ
 obtain ⟨a,A,rfl,xG,hc⟩:=hr
 have xr:∀ (k:Nat) (c:Cm),cs[k]? = some c→∃ b off,a = some (J b off)∧b < w.heap.size∧w.rangeAt b (off + k * 8) c.vs:=by
  intro k c hk
  obtain ⟨b,off,Q,N,h3⟩:=hc (by intro h; rw [h] at hk; simp at hk)
  exact ⟨b,off,Q,N,h3 k c hk⟩
 have HC:=Y xr
 clear xr hc kQ
 have hsf:=sfl
 have HIV:=Y (da cs ju)
 have HF:Hid (rsF cs = { runS cs with t:=totM (runS cs).g (runS cs).l }):=Y (by rw [rsF,if_pos ju,tot_eq cs ju])
 generalize rsF cs = ty at HF ⊢
 obtain ⟨i0,uG,uF,uI,uT⟩:=info_parts infoEvS
 have hbX:=eE w (E #[.slice none 0 0,H 0,.slice none 0 0,H 0,H 0,H 0,H 0,H 0,H 0,H 0,H 0] 32)
 have HX:Hid ((w.alloc (E #[.slice none 0 0,H 0,.slice none 0 0,H 0,H 0,H 0,H 0,H 0,H 0,H 0,H 0] 32)).heap.size = w.heap.size + 1∧World.there (w.alloc (E #[.slice none 0 0,H 0,.slice none 0 0,H 0,H 0,H 0,H 0,H 0,H 0,H 0,H 0] 32)) w.heap.size 0 11∧yn w (w.alloc (E #[.slice none 0 0,H 0,.slice none 0 0,H 0,H 0,H 0,H 0,H 0,H 0,H 0,H 0] 32))):=⟨zh _ _,zw w [.slice none 0 0,H 0,.slice none 0 0,H 0,H 0,H 0,H 0,H 0,H 0,H 0,H 0] 32,hbX⟩
 clear hbX
 go_enter Tryz.func34,Tryz.ntmps34
 refine eI fun hR xv=>?_
 go_wp2_with fail
 refine U xv _ _ ?_
 clear xv
 generalize (w.alloc (E #[.slice none 0 0,H 0,.slice none 0 0,H 0,H 0,H 0,H 0,H 0,H 0,H 0,H 0] 32)) = hb at HX ⊢
 have hXs:=(U HX).1
 have HL:Hid (LG w (hb.alloc (E #[.slice none 0 0,H 1,.slice none 0 0,H 0,H 0,H 0,H 0,H 0,H 0,H 0,H 0] 32)) (.slice none 0 0) [] (.slice none 0 0) (runS (cs.take 0))):=by
  have b3:=eE hb (E #[.slice none 0 0,H 1,.slice none 0 0,H 0,H 0,H 0,H 0,H 0,H 0,H 0,H 0] 32)
  have r3:=zi hb [.slice none 0 0,H 1,.slice none 0 0,H 0,H 0,H 0,H 0,H 0,H 0,H 0,H 0] 32
  have t3:=zw hb [.slice none 0 0,H 1,.slice none 0 0,H 0,H 0,H 0,H 0,H 0,H 0,H 0,H 0] 32
  have k3:=heap_alloc_new hb (E #[.slice none 0 0,H 1,.slice none 0 0,H 0,H 0,H 0,H 0,H 0,H 0,H 0,H 0] 32)
  rw [hXs] at r3 t3 k3
  exact ⟨r3,t3,zg (U HX).2.1 b3 (by omega),⟨_,k3⟩,World.ownsRow_nil _ _ _ _,rfl,fun i g es hg=>by simp at hg,World.ownsRow_nil _ _ _ _,(U HX).2.2.trans (b3.mono (by omega)),by rw [zh]; omega⟩
 refine eI fun hR xv=>?_
 go_wp2_with fail
 refine U xv _ _ ?_
 clear xv
 generalize (hb.alloc (E #[.slice none 0 0,H 1,.slice none 0 0,H 0,H 0,H 0,H 0,H 0,H 0,H 0,H 0] 32)) = yb at HL ⊢
 clear hXs HX
 refine eI fun hR xv=>?_
 go_wp2_with fail
 go_loopw [4] (fun iv wr=>∃ (k:Nat),k ≤ cs.length∧iv = H k∧Hid (∃ gv gs vq,LG w wr gv gs vq (runS (cs.take k)))) (fun iv _=>cs.length - (intOf iv).toNat)
 case atStart=>exact ⟨0,Nat.zero_le _,rfl,_,_,_,U HL⟩
 case round =>
  obtain ⟨k,hk,rfl,ux⟩:=hrel
  obtain ⟨gv,gs,vq,hlg⟩:=U ux
  have HG:=Y hlg
  clear ux hlg
  by_cases xL:k < cs.length
  ·obtain ⟨c,vd⟩:∃ c,cs[k]? = some c:=⟨_,yI xL⟩
   obtain ⟨b,off,rfl,X,xp⟩:=U HC k c vd
   have vF:Hid (runS (cs.take (k + 1)) = aX (runS (cs.take k)) c):=cZ cs vd
   have uy:(k:Int) < cs.length:=by omega
   obtain ⟨ph,hi2,hi3,hi4⟩:=U HIV k hk
   have htge:=U qn c (yP vd)
   have HCM:=Y (zb xp (U HG).b X)
   have ou:b < wr.heap.size:=yK X (U HG).b.size
   generalize runS (cs.take k) = s at vF ph hi2 hi3 hi4 HG
   obtain ⟨n,l,gl,t⟩:=s
   simp only [aX] at vF
   simp only at ph hi2 hi3 hi4
   have kz:=ph.good.len
   obtain ⟨aq0,cq0,hv⟩:=zU (U HG).q
   simp only at hv
   subst hv
   have HGS:Hid (gs.length = k):=(U HG).gl.trans hi4
   clear hi4
   have oV:=Y (U HG).g
   obtain ⟨ga,gc,hgv⟩:=zU (U oV)
   subst hgv
   have HRO:Hid (RdR Od.vs 6 wr (.slice aq0 l.length cq0) l):=zN (U HG).q (by omega)
   have uK:=Y (fun (V:World) hV=>l04Step_any n (.slice aq0 l.length cq0) l c V hV (oRow_sl (U HG).q) ph.good ph.side (by omega) (by omega) htge)
   have HLN:=Y (stE_len (c:=c) (next:=n) ph.good)
   have HLL:=Y (stL_len (c:=c) (next:=n) ph.good)
   generalize stN n l c = h2 at vF uK
   generalize stL n l c = qt at vF uK HLL
   generalize stE n l c = eG at vF uK HLN
   unfold cmV at uK
   have qW:=(U HG).z
   clear vd xp ph htge
   go_wp2_with fail
   refine zj (RG wr (fun f=>{ tmps:=#[.slice (some (J b off)) cs.length A,M,I w.heap.size 0,I (w.heap.size + 1) 0,H k,f 10,f 12,.agg #[H 1,.slice none 0 0],.agg #[.slice none 0 0,H 1,.slice none 0 0,H 0,H 0,H 0,H 0,H 0,H 0,H 0,H 0],H k,.slice (some (J b off)) cs.length A,H cs.length,.bool true,u13,u14,f 7,f 0,f 1,f 2,f 3,f 4,f 5,f 6,f 8,f 9,u25,u26,u27,u28,u29,u30,u31,u32,M,M,M,M,M,M,M],defers:=[] }) 11 (DP [I (w.heap.size + 1) 1,.agg #[H n,.slice aq0 l.length cq0],.slice (some (J b off)) cs.length A,H k,I b (off + k * 8),.agg (yx c.k c.s c.t c.l c.q c.i c.p c.g).toArray] [(6,2),(7,2),(8,3),(9,4),(10,5),(11,9),(12,4)] wr.heap.size n h2 l qt eG)) (by kernel_rfl) ?_ ?_ ?_
   ·exact ⟨fun j=>([u16,u17,u18,u19,u20,u21,u22,u15,u23,u24,u5,M,u6]:List Value)[j]?.getD M,rfl,⟨rfl,rfl,rfl,Nat.le_refl _,fun _ _=>rfl⟩,fun j R=>by rw [yJ] at R; split at R <;> simp at R⟩
   rotate_left
   ·rintro x xn V i op ⟨f,rfl,xm,hD⟩ xp hx Z xz D
    have xw:=Y xm
    have HD:=Y hD
    match i,Z with
    | 0,Z =>
     obtain rfl:=ya Z
     clear D hD xm xp
     rw [if_pos (by rfl)];unfold Oper.wp;go_simp
     exact ⟨upd f 0 (I (w.heap.size + 1) 1),by simp [upd],zf (U xw) (U HD) (by decide) (dp_mkv rfl rfl)⟩
    | 1,Z =>
     obtain rfl:=ya Z
     have g0:f 0 = I (w.heap.size + 1) 1:=dp_val (hD 0 (ye D 0 rfl)) rfl rfl
     have y1:=zb (U HG).r xm (by omega) 1 _ rfl
     have y2:=zb (U HG).r xm (by omega) 2 _ rfl
     simp only [Nat.zero_add] at y1 y2
     clear D hD xm xp
     rw [if_pos (by rfl)];unfold Oper.wp;go_simp
     exact ⟨upd f 1 (.agg #[H n,.slice aq0 l.length cq0]),by simp [upd,g0],zf (U xw) (U HD) (by decide) (dp_mkv rfl rfl)⟩
    | 2,Z =>
     obtain rfl:=ya Z
     clear D hD xm xp
     rw [if_pos (by rfl)];unfold Oper.wp;go_simp
     exact ⟨upd f 2 (.slice (some (J b off)) cs.length A),by simp [upd],zf (U xw) (U HD) (by decide) (dp_mkv rfl rfl)⟩
    | 3,Z =>
     obtain rfl:=ya Z
     clear D hD xm xp
     rw [if_pos (by rfl)];unfold Oper.wp;go_simp
     exact ⟨upd f 3 (H k),by simp [upd],zf (U xw) (U HD) (by decide) (dp_mkv rfl rfl)⟩
    | 4,Z =>
     obtain rfl:=ya Z
     have g2:f 2 = .slice (some (J b off)) cs.length A:=dp_val (hD 2 (ye D 2 rfl)) rfl rfl
     have g3:f 3 = H k:=dp_val (hD 3 (ye D 3 rfl)) rfl rfl
     clear D hD xm xp
     rw [if_pos (by rfl)];unfold Oper.wp;go_simp
     exact ⟨upd f 4 (I b (off + k * 8)),by simp [upd,g2,g3],zf (U xw) (U HD) (by decide) (dp_mkv rfl rfl)⟩
    | 5,Z =>
     obtain rfl:=ya Z
     have g4:f 4 = I b (off + k * 8):=dp_val (hD 4 (ye D 4 rfl)) rfl rfl
     obtain ⟨q0,q1,q2,q3,q4,q5,q6,q7⟩:=cm_cells (zb (U HCM) xm ou)
     clear D hD xm xp
     rw [if_pos (by rfl)];unfold Oper.wp;go_simp
     exact ⟨upd f 5 (.agg (yx c.k c.s c.t c.l c.q c.i c.p c.g).toArray),by simp [upd,g4],zf (U xw) (U HD) (by decide) (dp_mkv rfl rfl)⟩
    | 6,Z =>
     obtain rfl:=ya Z
     have g1:f 1 = .agg #[H n,.slice aq0 l.length cq0]:=dp_val (hD 1 (ye D 1 rfl)) rfl rfl
     have g5:f 5 = .agg (yx c.k c.s c.t c.l c.q c.i c.p c.g).toArray:=dp_val (hD 5 (ye D 5 rfl)) rfl rfl
     have hS:=xm.size
     have HRV:=Y (zn (U HRO) xm tg)
     clear D hD xm xp
     rw [if_pos (by rfl)];unfold Oper.wp;go_simp
     refine (U uK V (U HRV)).mono ?_
     rintro e w4 ⟨vq,vg,rfl,aH,he4,xD⟩
     obtain ⟨aq,cq,rfl⟩:=zU aH
     obtain ⟨ag,cg,rfl⟩:=zU he4
     exact ⟨upd f 6 (.tuple #[.agg #[H h2,.slice aq qt.length cq],.slice ag eG.length cg]),by simp [upd,g1,g5],df dp_grow (U xw) (U HD) xD (by decide) (dp_mk2 rfl ⟨aq,cq,ag,cg,rfl,zI aH hS,zI he4 hS⟩)⟩
    | 7,Z =>
     obtain rfl:=ya Z
     obtain ⟨aq,cq,ag,cg,g,N,h3⟩:=dp_2 (hD 6 (ye D 6 rfl)) rfl
     have H2:=Y N
     have H3:=Y h3
     clear N h3
     clear D hD xm xp
     rw [if_pos (by rfl)];unfold Oper.wp;go_simp
     exact ⟨upd f 7 (.tuple #[.agg #[H h2,.slice aq qt.length cq],.slice ag eG.length cg]),by simp [upd,g],zf (U xw) (U HD) (by decide) (dp_mk2 rfl ⟨aq,cq,ag,cg,rfl,U H2,U H3⟩)⟩
    | 8,Z =>
     obtain rfl:=ya Z
     obtain ⟨aq,cq,ag,cg,g,N,h3⟩:=dp_2 (hD 7 (ye D 7 rfl)) rfl
     have H2:=Y N
     have H3:=Y h3
     clear N h3
     clear D hD xm xp
     rw [if_pos (by rfl)];unfold Oper.wp;go_simp
     exact ⟨upd f 8 (.agg #[H h2,.slice aq qt.length cq]),by simp [upd,g],zf (U xw) (U HD) (by decide) (dp_mk3 rfl ⟨aq,cq,rfl,U H2⟩)⟩
    | 9,Z =>
     obtain rfl:=ya Z
     obtain ⟨aq,cq,ag,cg,g,N,h3⟩:=dp_2 (hD 7 (ye D 7 rfl)) rfl
     have H2:=Y N
     have H3:=Y h3
     clear N h3
     clear D hD xm xp
     rw [if_pos (by rfl)];unfold Oper.wp;go_simp
     exact ⟨upd f 9 (.slice ag eG.length cg),by simp [upd,g],zf (U xw) (U HD) (by decide) (dp_mk4 rfl ⟨ag,cg,rfl,U H3⟩)⟩
    | 10,Z =>
     obtain rfl:=ya Z
     have hp:¬ x[11]? = some true:=by rw [zz xp 12 10 11 (by kernel_rfl) hx (by simp) xz]; simp
     have hS:=xm.size
     clear D hD xm xp
     rw [if_pos (by rfl)];unfold Oper.wp;go_simp
     exact ⟨upd f 10 (I V.heap.size 0),by simp [upd],df dp_grow (U xw) (U HD) (eE _ _) (by decide) (dp_mk5 rfl hp hS)⟩
    | 11,Z =>
     obtain rfl:=ya Z
     obtain ⟨aq,cq,g6,ho6⟩:=dp_3 (hD 8 (ye D 8 rfl)) rfl
     obtain ⟨b0,g9,hSb,hlt0,xF,jb,-⟩:=dp_5 (hD 10 (ye D 10 rfl)) rfl
     have HSX:Hid (∀ j,j ≠ 11→x[j]? = some true→DP [I (w.heap.size + 1) 1,.agg #[H n,.slice aq0 l.length cq0],.slice (some (J b off)) cs.length A,H k,I b (off + k * 8),.agg (yx c.k c.s c.t c.l c.q c.i c.p c.g).toArray] [(6,2),(7,2),(8,3),(9,4),(10,5),(11,9),(12,4)] wr.heap.size n h2 l qt eG False V j (f j)→DP [I (w.heap.size + 1) 1,.agg #[H n,.slice aq0 l.length cq0],.slice (some (J b off)) cs.length A,H k,I b (off + k * 8),.agg (yx c.k c.s c.t c.l c.q c.i c.p c.g).toArray] [(6,2),(7,2),(8,3),(9,4),(10,5),(11,9),(12,4)] wr.heap.size n h2 l qt eG True (V.setCells b0 0 [H h2,.slice aq qt.length cq]) j (f j)):=fun j R hxj h=>dp_store hSb xF hlt0 jb ho6 (fun hk=>by rw [look_only hk (i:=10) (by decide)]; exact g9) h
     have uk:=Y (zo b0 hSb [H h2,.slice aq qt.length cq] 0 _ xm)
     obtain ⟨p0,x0,f0⟩:=ze xF (j:=0) (by omega)
     obtain ⟨p1,x1,f1⟩:=ze xF (j:=1) (by omega)
     clear D hD xm xp xF jb ho6
     rw [if_pos (by rfl)];unfold Oper.wp;go_simp
     exact ⟨f,by simp [g6,g9],rg_write2 (U uk) (U HD) xz (U HSX) (dp_mk9 rfl)⟩
    | 12,Z =>
     obtain rfl:=ya Z
     obtain ⟨ag,cg,g,h3⟩:=dp_4 (hD 9 (ye D 9 rfl)) rfl
     have H3:=Y h3
     clear h3
     clear D hD xm xp
     rw [if_pos (by rfl)];unfold Oper.wp;go_simp
     exact ⟨upd f 12 (.slice ag eG.length cg),by simp [upd,g],zf (U xw) (U HD) (by decide) (dp_mk4 rfl ⟨ag,cg,rfl,U H3⟩)⟩
    | n + 13,Z=>simp at Z
   ·rintro x xn V ⟨f,rfl,xm,hD⟩ hx xN
    have xq:=zR xN hx (by kernel_rfl)
    obtain ⟨ag,cg,e12,hge⟩:=dp_4 (hD 12 (xq 12 (by simp))) rfl
    obtain ⟨bb,oG,hSb,hltb,-,hbxb,qr⟩:=dp_5 (hD 10 (xq 10 (by simp))) rfl
    obtain ⟨aq,cq,hra,hro⟩:=qr (xq 11 (by simp))
    simp only [e12,oG]
    have jR:=Y (lg_below (U HG) xm)
    have HOV:=Y (zI hro qW)
    have vH:=Y (zI hge qW)
    have x0:V.cell? (J bb 0) = some (H h2):=hra 0 _ rfl
    have x1:V.cell? (J bb 1) = some (.slice aq qt.length cq):=hra 1 _ rfl
    obtain ⟨y1,z1,q1⟩:=ze (U jR).t (j:=1) (by omega)
    obtain ⟨y2,z2,q2⟩:=ze (U jR).t (j:=2) (by omega)
    have m0:V.cell? (J (w.heap.size + 1) 0) = some (.slice ga gs.length gc):=(U jR).r 0 _ rfl
    clear e12 hge oG hltb hbxb qr hra hro hD xq xN hx xm
    generalize f 0 = v0,f 1 = v1,f 2 = v2,f 3 = v3,f 4 = v4,f 5 = v5,f 6 = v6,f 7 = v7,f 8 = v8,f 9 = v9
    rename_i KA haA
    refine haA _ _ ?_
    clear haA KA
    refine eI fun K2 kg=>?_
    go_wp2_with fail
    refine U kg _ _ ?_
    clear kg x0 x1 z1 q1 z2 q2 m0
    have HLB:=Y (lg_book (U jR) h2 qt (U HOV))
    have js:=Y (zv (zv (U vH) (zl (U vH) (U jR).bx (by decide)) 1 (H h2)) (zl (U vH) (U jR).bx (by decide)) 2 (.slice aq qt.length cq))
    clear jR vH HOV
    generalize (V.setCell (J (w.heap.size + 1) 1) (H h2)).setCell (J (w.heap.size + 1) 2) (.slice aq qt.length cq) = V1 at HLB js ⊢
    have m0:V1.cell? (J (w.heap.size + 1) 0) = some (.slice ga gs.length gc):=(U HLB).r 0 _ rfl
    refine wp_region_lit ?_
    refine wpList_step fun K3 vR=>?_
    have vz:=Y vR
    clear vR
    rw [if_pos (by rfl)];unfold Oper.wp;go_simp
    refine U vz _ _ ?_
    clear vz
    refine wpList_step fun K3 vR=>?_
    have vz:=Y vR
    clear vR
    rw [if_pos (by rfl)];unfold Oper.wp;go_simp
    refine U vz _ _ ?_
    clear vz
    refine wpList_step fun K3 vR=>?_
    have vz:=Y vR
    clear vR
    rw [if_pos (by rfl)];unfold Oper.wp;go_simp
    refine U vz _ _ ?_
    clear vz
    refine wpList_step fun K3 vR=>?_
    have vz:=Y vR
    clear vR
    rw [if_pos (by rfl)];unfold Oper.wp;go_simp
    refine U vz _ _ ?_
    clear vz
    have bA:=eE V1 (E #[.slice ag eG.length cg] 38)
    have jP:=Y (lg_below (U HLB) bA)
    have HEC:=Y (zJ (U js) bA)
    have ow:(V1.alloc (E #[.slice ag eG.length cg] 38)).cell? (J V1.heap.size 0) = some (.slice ag eG.length cg):=zi V1 [.slice ag eG.length cg] 38 0 _ rfl
    generalize V1.alloc (E #[.slice ag eG.length cg] 38) = V2 at jP HEC ow ⊢
    generalize V1.heap.size = vs at ow ⊢
    clear bA HLB js m0
    refine wpList_step fun K3 vR=>?_
    have vz:=Y vR
    clear vR
    rw [if_pos (by rfl)]
    refine wp_append_own V2 (.tmp 28) (.tmp 30) 25 rfl (w.heap.size + 1 + 1) 38 i0 _ 1 24 Tryz.underlying25 uG uF uI uT rfl (by decide) (.slice ga gs.length gc) gs.length gs rfl (U jP).g (J vs 0) 1 1 [.slice ag eG.length cg] rfl rfl (fun j u hu=>by match j,hu with | 0,hu=>cases hu; rw [Addr.add_mid]; exact ow | j + 1,hu=>simp at hu) (by intro u hu; simp at hu; subst hu; rfl) (by have:=U HGS; unfold maxLen; omega) (by have:=U HGS; omega) (by have:=(U jP).z; omega) ?_
    intro v' w' xI uc _
    have oW:Hid (GRow w' (w.heap.size + 1 + 1) v' (gs ++ [Value.slice ag eG.length cg])):=by show w'.ownsRow _ _ _ _ (gs ++ [Value.slice ag eG.length cg]).length _; rw [yQ]; exact xI
    obtain ⟨ga',gc',hv'⟩:=zU (U oW)
    subst hv'
    have HLD:=Y (lg_group (U jP) (U HEC) (U oW) uc)
    obtain ⟨y0,z0,q0⟩:=ze (bH (U jP).t uc (by have:=(U jP).z; omega) (zl (U jP).g (U jP).bx (by decide))) (j:=0) (by omega)
    clear xI uc jP HEC ow
    refine U vz _ _ ?_
    clear vz
    refine wpList_step fun K3 vR=>?_
    have vz:=Y vR
    clear vR
    rw [if_pos (by rfl)];unfold Oper.wp;go_simp
    refine U vz _ _ ?_
    clear vz
    refine wpList_step fun K3 vR=>?_
    have vz:=Y vR
    clear vR
    rw [if_pos (by rfl)];unfold Oper.wp;go_simp
    refine U vz _ _ ?_
    clear vz
    have elen:(gs ++ [Value.slice ag eG.length cg]).length = gs.length + 1:=by simp
    rw [elen] at HLD
    clear elen
    generalize w'.setCell (J (w.heap.size + 1) 0) (.slice ga' (gs.length + 1) gc') = V3 at HLD ⊢
    clear z0 q0
    refine wpList_nil ?_
    go_wp2_with fail
    go_roundw
    case rel=>exact ⟨k + 1,by omega,by go_num,_,_,_,by rw [U vF]; exact lg_tot _ (U HLD)⟩
    case measure=>simp [intOf]; omega
  ·have uy:¬ (k:Int) < cs.length:=by omega
   rw [xa (by omega)] at HG
   have HFW:=Y (run_few cs ju cs.length tg)
   have HRI:=Y (run_inv cs ju)
   rw [xa tg] at HFW
   go_wp2_with fail
   refine U xv _ _ ?_
   clear xv xL uy
   generalize runS cs = s at HG HF HFW HRI
   obtain ⟨n,l,gl,t⟩:=s
   simp only at HF HFW HRI
   obtain ⟨aq,cq,hv⟩:=zU (U HG).q
   simp only at hv
   subst hv
   obtain ⟨ga,gc,hgv⟩:=zU (U HG).g
   subst hgv
   have jX:gs.length = gl.length:=(U HG).gl
   have HGD:=Y (grs_rd (U HG).g jX (U HG).ge (by have:=(U HRI).2.2.2; omega) (fun es uS=>yO (U HFW es uS) (by omega)))
   have HOD:Hid (RdR Od.vs 6 wr (.slice aq l.length cq) l):=zN (U HG).q (by have:=(U HRI).1.good.len; omega)
   have oh:=Y jX
   clear jX
   have jf:=Y (l04Totals_any _ gl n _ l wr (U HGD) (U HOD))
   generalize totM gl l = T at jf HF
   obtain ⟨uf,ue,uh,ui,uj,ug,uu,ut⟩:=T
   simp only at jf
   have m0:wr.cell? (J (w.heap.size + 1) 0) = some (.slice ga gs.length gc):=(U HG).r 0 _ rfl
   have m1:wr.cell? (J (w.heap.size + 1) 1) = some (H n):=(U HG).r 1 _ rfl
   have m2:wr.cell? (J (w.heap.size + 1) 2) = some (.slice aq l.length cq):=(U HG).r 2 _ rfl
   refine eI fun hR xv=>?_
   go_wp2_with fail
   refine (U jf).mono ?_
   rintro e V2 ⟨rfl,xX⟩
   clear m0 m1 m2
   have uP:=Y (lg_below (U HG) xX)
   clear xX
   have uT:=(U uP).z
   obtain ⟨y3,z3,q3⟩:=ze (U uP).t (j:=3) (by omega)
   obtain ⟨y4,z4,q4⟩:=ze (U uP).t (j:=4) (by omega)
   obtain ⟨y5,z5,q5⟩:=ze (U uP).t (j:=5) (by omega)
   obtain ⟨y6,z6,q6⟩:=ze (U uP).t (j:=6) (by omega)
   obtain ⟨y7,z7,q7⟩:=ze (U uP).t (j:=7) (by omega)
   obtain ⟨y8,z8,q8⟩:=ze (U uP).t (j:=8) (by omega)
   obtain ⟨y9,z9,q9⟩:=ze (U uP).t (j:=9) (by omega)
   obtain ⟨y10,z10,q10⟩:=ze (U uP).t (j:=10) (by omega)
   go_wp2_with fail
   refine U xv _ _ ?_
   clear xv z3 q3 z4 q4 z5 q5 z6 q6 z7 q7 z8 q8 z9 q9 z10 q10
   change Code.wp _ _ _ _ (V2.setCells (w.heap.size + 1) 3 (Tot.mk uf ue uh ui uj ug uu ut).vs)
   have jF:Hid (V2.there (w.heap.size + 1) 3 8):=fun j R=>by
    have:=(U uP).t (3 + j) (by omega)
    rwa [Nat.zero_add] at this
   have je:=Y (yY V2 (w.heap.size + 1) 3 (Tot.mk uf ue uh ui uj ug uu ut).vs (fun j R=>U jF j (by simpa [Tot.vs] using R)))
   have HC0:Hid (∀ j u,j < 3→V2.cell? (J (w.heap.size + 1) j) = some u→(V2.setCells (w.heap.size + 1) 3 (Tot.mk uf ue uh ui uj ug uu ut).vs).cell? (J (w.heap.size + 1) j) = some u):=fun j u R hu=>(World.cell?_setCells_out (w.heap.size + 1) _ 3 V2 (J (w.heap.size + 1) j) (fun _ _=>.inl R)).trans hu
   have qB:Hid (World.there (V2.setCells (w.heap.size + 1) 3 (Tot.mk uf ue uh ui uj ug uu ut).vs) w.heap.size 0 11):=there_blk (U uP).o (di (w.heap.size + 1) w.heap.size (by omega) _ 3 V2)
   have xw:=Y (zo (w.heap.size + 1) (by omega) (Tot.mk uf ue uh ui uj ug uu ut).vs 3 V2 (U uP).b)
   have vK:Hid (∀ {e sz m:Nat} {v:Value} {xs:List Value},V2.ownsRow (w.heap.size + 1 + 1) e sz v m xs→32 ≠ e→World.ownsRow ((V2.setCells (w.heap.size + 1) 3 (Tot.mk uf ue uh ui uj ug uu ut).vs).setCells w.heap.size 0 [.slice ga gs.length gc,H n,.slice aq l.length cq,H uf,H ue,H uh,H ui,H uj,H ug,H uu,H ut]) w.heap.size e sz v m xs):=fun {e sz m v xs} h hne'=>row_end h (zl h (U uP).bx hne') (Below.refl _ _) (by omega) (by omega) _ _ _ _
   generalize V2.setCells (w.heap.size + 1) 3 (Tot.mk uf ue uh ui uj ug uu ut).vs = V at je HC0 qB xw vK ⊢
   have m0:=U HC0 0 _ (by omega) ((U uP).r 0 _ rfl)
   have m1:=U HC0 1 _ (by omega) ((U uP).r 1 _ rfl)
   have m2:=U HC0 2 _ (by omega) ((U uP).r 2 _ rfl)
   simp only at m1
   have m3:V.cell? (J (w.heap.size + 1) 3) = some (H uf):=U je 0 _ rfl
   have m4:V.cell? (J (w.heap.size + 1) 4) = some (H ue):=U je 1 _ rfl
   have m5:V.cell? (J (w.heap.size + 1) 5) = some (H uh):=U je 2 _ rfl
   have m6:V.cell? (J (w.heap.size + 1) 6) = some (H ui):=U je 3 _ rfl
   have m7:V.cell? (J (w.heap.size + 1) 7) = some (H uj):=U je 4 _ rfl
   have m8:V.cell? (J (w.heap.size + 1) 8) = some (H ug):=U je 5 _ rfl
   have m9:V.cell? (J (w.heap.size + 1) 9) = some (H uu):=U je 6 _ rfl
   have m10:V.cell? (J (w.heap.size + 1) 10) = some (H ut):=U je 7 _ rfl
   obtain ⟨y0,z0,q0⟩:=ze (U qB) (j:=0) (by omega)
   obtain ⟨y1,z1,q1⟩:=ze (U qB) (j:=1) (by omega)
   obtain ⟨y2,z2,q2⟩:=ze (U qB) (j:=2) (by omega)
   obtain ⟨y3,z3,q3⟩:=ze (U qB) (j:=3) (by omega)
   obtain ⟨y4,z4,q4⟩:=ze (U qB) (j:=4) (by omega)
   obtain ⟨y5,z5,q5⟩:=ze (U qB) (j:=5) (by omega)
   obtain ⟨y6,z6,q6⟩:=ze (U qB) (j:=6) (by omega)
   obtain ⟨y7,z7,q7⟩:=ze (U qB) (j:=7) (by omega)
   obtain ⟨y8,z8,q8⟩:=ze (U qB) (j:=8) (by omega)
   obtain ⟨y9,z9,q9⟩:=ze (U qB) (j:=9) (by omega)
   obtain ⟨y10,z10,q10⟩:=ze (U qB) (j:=10) (by omega)
   have xR:=Y (yY V w.heap.size 0 [.slice ga gs.length gc,H n,.slice aq l.length cq,H uf,H ue,H uh,H ui,H uj,H ug,H uu,H ut] (fun j R=>U qB j R))
   have qf:=Y (zo w.heap.size tg [.slice ga gs.length gc,H n,.slice aq l.length cq,H uf,H ue,H uh,H ui,H uj,H ug,H uu,H ut] 0 V (U xw))
   have HGG:Hid (GRs (V.setCells w.heap.size 0 [.slice ga gs.length gc,H n,.slice aq l.length cq,H uf,H ue,H uh,H ui,H uj,H ug,H uu,H ut]) w.heap.size (.slice ga gs.length gc) gl):=⟨gs,U vK (U uP).g (by decide),U oh,fun i g es hg uS=>U vK ((U uP).ge i g es hg uS) (by decide)⟩
   have HO:Hid (ORow (V.setCells w.heap.size 0 [.slice ga gs.length gc,H n,.slice aq l.length cq,H uf,H ue,H uh,H ui,H uj,H ug,H uu,H ut]) w.heap.size (.slice aq l.length cq) l):=U vK (U uP).q (by decide)
   clear vK
   go_wp2_with fail
   change bodyPost _ _ _ _ _ (V.setCells w.heap.size 0 [.slice ga gs.length gc,H n,.slice aq l.length cq,H uf,H ue,H uh,H ui,H uj,H ug,H uu,H ut])
   generalize V.setCells w.heap.size 0 [.slice ga gs.length gc,H n,.slice aq l.length cq,H uf,H ue,H uh,H ui,H uj,H ug,H uu,H ut] = WE at xR qf HGG HO ⊢
   obtain rfl:=U HF
   have d0:WE.cell? (J w.heap.size 0) = some (.slice ga gs.length gc):=U xR 0 _ rfl
   have d1:WE.cell? (J w.heap.size 1) = some (H n):=U xR 1 _ rfl
   have d2:WE.cell? (J w.heap.size 2) = some (.slice aq l.length cq):=U xR 2 _ rfl
   have d3:WE.cell? (J w.heap.size 3) = some (H uf):=U xR 3 _ rfl
   have d4:WE.cell? (J w.heap.size 4) = some (H ue):=U xR 4 _ rfl
   have d5:WE.cell? (J w.heap.size 5) = some (H uh):=U xR 5 _ rfl
   have d6:WE.cell? (J w.heap.size 6) = some (H ui):=U xR 6 _ rfl
   have d7:WE.cell? (J w.heap.size 7) = some (H uj):=U xR 7 _ rfl
   have d8:WE.cell? (J w.heap.size 8) = some (H ug):=U xR 8 _ rfl
   have d9:WE.cell? (J w.heap.size 9) = some (H uu):=U xR 9 _ rfl
   have d10:WE.cell? (J w.heap.size 10) = some (H ut):=U xR 10 _ rfl
   refine bodyPost_ret (by simp [results,Tryz.results34,go_sem,d0,d1,d2,d3,d4,d5,d6,d7,d8,d9,d10]; try rfl) rfl ?_
   exact ⟨_,_,rfl,U HGG,U HO,U qf⟩
theorem specRunScript_any (v:Value) (cs:List Cm) (w:World) (hr:RdR Cm.vs 8 w v cs) (kQ:∀ c ∈ cs,c.g.size ≤ maxLen) :
  Calls Tryz.prog 11 #[v] w fun e w'=>∃ gv vq,e = ym (.tuple #[.agg #[gv,H (rsF cs).n,vq,H (rsF cs).t.gr,H (rsF cs).t.ac,H (rsF cs).t.rf,H (rsF cs).t.tr,H (rsF cs).t.vo,H (rsF cs).t.no,H (rsF cs).t.li,H (rsF cs).t.le],H (cntF cs.length)])∧GRs w' w.heap.size gv (rsF cs).g∧ORow w' w.heap.size vq (rsF cs).l∧yn w w':=by
 have HR:=Y hr
 have qn:=Y kQ
 obtain ⟨a,A,rfl,xG,hc⟩:=hr
 clear hc kQ
 have hsf:=sfl
 have HF:Hid (rsF cs = if cs.length ≤ 200 then { runS cs with t:=wbT (runS cs).t (runS cs).l } else ⟨0,[],[],tot0⟩):=rfl
 have kn:=Y (cntF.eq_1 cs.length)
 have HRU:=Y (fun (h:cs.length ≤ 200) (W:World) hW=>l04Run_any (.slice a cs.length A) cs W hW (U qn) h)
 generalize rsF cs = ty at HF HRU ⊢
 generalize cntF cs.length = CF at kn ⊢
 have hbX:=eE w (E #[.slice none 0 0,H 0,.slice none 0 0,H 0,H 0,H 0,H 0,H 0,H 0,H 0,H 0] 32)
 have HX:Hid ((w.alloc (E #[.slice none 0 0,H 0,.slice none 0 0,H 0,H 0,H 0,H 0,H 0,H 0,H 0,H 0] 32)).heap.size = w.heap.size + 1∧World.there (w.alloc (E #[.slice none 0 0,H 0,.slice none 0 0,H 0,H 0,H 0,H 0,H 0,H 0,H 0,H 0] 32)) w.heap.size 0 11∧yn w (w.alloc (E #[.slice none 0 0,H 0,.slice none 0 0,H 0,H 0,H 0,H 0,H 0,H 0,H 0,H 0] 32))):=⟨zh _ _,zw w [.slice none 0 0,H 0,.slice none 0 0,H 0,H 0,H 0,H 0,H 0,H 0,H 0,H 0] 32,hbX⟩
 clear hbX
 go_enter Tryz.func11,Tryz.ntmps11
 refine eI fun hR xv=>?_
 go_wp2_with fail
 refine U xv _ _ ?_
 clear xv
 generalize (w.alloc (E #[.slice none 0 0,H 0,.slice none 0 0,H 0,H 0,H 0,H 0,H 0,H 0,H 0,H 0] 32)) = hb at HX ⊢
 obtain ⟨y0,z0,q0⟩:=ze (U HX).2.1 (j:=0) (by omega)
 obtain ⟨y1,z1,q1⟩:=ze (U HX).2.1 (j:=1) (by omega)
 obtain ⟨y2,z2,q2⟩:=ze (U HX).2.1 (j:=2) (by omega)
 obtain ⟨y3,z3,q3⟩:=ze (U HX).2.1 (j:=3) (by omega)
 obtain ⟨y4,z4,q4⟩:=ze (U HX).2.1 (j:=4) (by omega)
 obtain ⟨y5,z5,q5⟩:=ze (U HX).2.1 (j:=5) (by omega)
 obtain ⟨y6,z6,q6⟩:=ze (U HX).2.1 (j:=6) (by omega)
 obtain ⟨y7,z7,q7⟩:=ze (U HX).2.1 (j:=7) (by omega)
 obtain ⟨y8,z8,q8⟩:=ze (U HX).2.1 (j:=8) (by omega)
 obtain ⟨y9,z9,q9⟩:=ze (U HX).2.1 (j:=9) (by omega)
 obtain ⟨y10,z10,q10⟩:=ze (U HX).2.1 (j:=10) (by omega)
 by_cases Q:4096 < cs.length
 ·have qz:Hid (ty = ⟨0,[],[],tot0⟩):=(U HF).trans (if_neg (by omega))
  have HCD:Hid (CF = 2):=(U kn).trans (if_pos Q)
  have oH:(4096:Int) < cs.length:=by omega
  have xR:=Y (yY hb w.heap.size 0 [.slice none 0 0,H 0,.slice none 0 0,H 0,H 0,H 0,H 0,H 0,H 0,H 0,H 0] (fun j R=>(U HX).2.1 j R))
  have qf:=Y (zo w.heap.size tg [.slice none 0 0,H 0,.slice none 0 0,H 0,H 0,H 0,H 0,H 0,H 0,H 0,H 0] 0 hb (U HX).2.2)
  clear HF kn HRU
  go_wp2_with fail
  change bodyPost _ _ _ _ _ (hb.setCells w.heap.size 0 [.slice none 0 0,H 0,.slice none 0 0,H 0,H 0,H 0,H 0,H 0,H 0,H 0,H 0])
  generalize hb.setCells w.heap.size 0 [.slice none 0 0,H 0,.slice none 0 0,H 0,H 0,H 0,H 0,H 0,H 0,H 0,H 0] = WE at xR qf ⊢
  obtain rfl:=U qz
  have d0:WE.cell? (yq w 0) = some (.slice none 0 0):=U xR 0 _ rfl
  have d1:WE.cell? (yq w 1) = some (H 0):=U xR 1 _ rfl
  have d2:WE.cell? (yq w 2) = some (.slice none 0 0):=U xR 2 _ rfl
  have d3:WE.cell? (yq w 3) = some (H 0):=U xR 3 _ rfl
  have d4:WE.cell? (yq w 4) = some (H 0):=U xR 4 _ rfl
  have d5:WE.cell? (yq w 5) = some (H 0):=U xR 5 _ rfl
  have d6:WE.cell? (yq w 6) = some (H 0):=U xR 6 _ rfl
  have d7:WE.cell? (yq w 7) = some (H 0):=U xR 7 _ rfl
  have d8:WE.cell? (yq w 8) = some (H 0):=U xR 8 _ rfl
  have d9:WE.cell? (yq w 9) = some (H 0):=U xR 9 _ rfl
  have d10:WE.cell? (yq w 10) = some (H 0):=U xR 10 _ rfl
  refine bodyPost_ret (by simp [results,Tryz.results11,go_sem,d0,d1,d2,d3,d4,d5,d6,d7,d8,d9,d10]; try rfl) rfl ?_
  rw [U HCD]
  exact ⟨_,_,rfl,⟨[],World.ownsRow_nil _ _ _ _,rfl,fun i g es hg=>by simp at hg⟩,World.ownsRow_nil _ _ _ _,U qf⟩
 have oH:¬ (4096:Int) < cs.length:=by omega
 by_cases N:200 < cs.length
 ·have qz:Hid (ty = ⟨0,[],[],tot0⟩):=(U HF).trans (if_neg (by omega))
  have HCD:Hid (CF = 7):=(U kn).trans ((if_neg Q).trans (if_pos N))
  have kH:(200:Int) < cs.length:=by omega
  have xR:=Y (yY hb w.heap.size 0 [.slice none 0 0,H 0,.slice none 0 0,H 0,H 0,H 0,H 0,H 0,H 0,H 0,H 0] (fun j R=>(U HX).2.1 j R))
  have qf:=Y (zo w.heap.size tg [.slice none 0 0,H 0,.slice none 0 0,H 0,H 0,H 0,H 0,H 0,H 0,H 0,H 0] 0 hb (U HX).2.2)
  clear HF kn HRU
  go_wp2_with fail
  change bodyPost _ _ _ _ _ (hb.setCells w.heap.size 0 [.slice none 0 0,H 0,.slice none 0 0,H 0,H 0,H 0,H 0,H 0,H 0,H 0,H 0])
  generalize hb.setCells w.heap.size 0 [.slice none 0 0,H 0,.slice none 0 0,H 0,H 0,H 0,H 0,H 0,H 0,H 0,H 0] = WE at xR qf ⊢
  obtain rfl:=U qz
  have d0:WE.cell? (yq w 0) = some (.slice none 0 0):=U xR 0 _ rfl
  have d1:WE.cell? (yq w 1) = some (H 0):=U xR 1 _ rfl
  have d2:WE.cell? (yq w 2) = some (.slice none 0 0):=U xR 2 _ rfl
  have d3:WE.cell? (yq w 3) = some (H 0):=U xR 3 _ rfl
  have d4:WE.cell? (yq w 4) = some (H 0):=U xR 4 _ rfl
  have d5:WE.cell? (yq w 5) = some (H 0):=U xR 5 _ rfl
  have d6:WE.cell? (yq w 6) = some (H 0):=U xR 6 _ rfl
  have d7:WE.cell? (yq w 7) = some (H 0):=U xR 7 _ rfl
  have d8:WE.cell? (yq w 8) = some (H 0):=U xR 8 _ rfl
  have d9:WE.cell? (yq w 9) = some (H 0):=U xR 9 _ rfl
  have d10:WE.cell? (yq w 10) = some (H 0):=U xR 10 _ rfl
  refine bodyPost_ret (by simp [results,Tryz.results11,go_sem,d0,d1,d2,d3,d4,d5,d6,d7,d8,d9,d10]; try rfl) rfl ?_
  rw [U HCD]
  exact ⟨_,_,rfl,⟨[],World.ownsRow_nil _ _ _ _,rfl,fun i g es hg=>by simp at hg⟩,World.ownsRow_nil _ _ _ _,U qf⟩
 have kH:¬ (200:Int) < cs.length:=by omega
 have HCD:Hid (CF = 0):=(U kn).trans ((if_neg Q).trans (if_neg N))
 have HRU1:=Y (U HRU (by omega) hb (zn (U HR) (U HX).2.2 tg))
 clear HRU HF kn z0 q0 z1 q1 z2 q2 z3 q3 z4 q4 z5 q5 z6 q6 z7 q7 z8 q8 z9 q9 z10 q10
 obtain ⟨fn,fl,fg,⟨uf,ue,uh,ui,uj,ug,uu,ut⟩⟩:=ty
 simp only at HRU1 ⊢
 go_wp2_with fail
 refine (U HRU1).mono ?_
 rintro e w4 ⟨gv,vq,rfl,⟨gs,hg,jX,hge⟩,hq,xD⟩
 obtain ⟨aq,cq,hv⟩:=zU hq
 subst hv
 obtain ⟨ga,gc,hgv⟩:=zU hg
 subst hgv
 have hxs:=(U HX).1
 have ol:=Y (zg (U HX).2.1 xD (by omega))
 have ud:=Y ((U HX).2.2.trans (xD.mono (U HX).2.2.size))
 obtain ⟨y0,z0,q0⟩:=ze (U ol) (j:=0) (by omega)
 obtain ⟨y1,z1,q1⟩:=ze (U ol) (j:=1) (by omega)
 obtain ⟨y2,z2,q2⟩:=ze (U ol) (j:=2) (by omega)
 obtain ⟨y3,z3,q3⟩:=ze (U ol) (j:=3) (by omega)
 obtain ⟨y4,z4,q4⟩:=ze (U ol) (j:=4) (by omega)
 obtain ⟨y5,z5,q5⟩:=ze (U ol) (j:=5) (by omega)
 obtain ⟨y6,z6,q6⟩:=ze (U ol) (j:=6) (by omega)
 obtain ⟨y7,z7,q7⟩:=ze (U ol) (j:=7) (by omega)
 obtain ⟨y8,z8,q8⟩:=ze (U ol) (j:=8) (by omega)
 obtain ⟨y9,z9,q9⟩:=ze (U ol) (j:=9) (by omega)
 obtain ⟨y10,z10,q10⟩:=ze (U ol) (j:=10) (by omega)
 have xR:=Y (yY w4 w.heap.size 0 [.slice ga gs.length gc,H fn,.slice aq fl.length cq,H uf,H ue,H uh,H ui,H uj,H ug,H uu,H ut] (fun j R=>U ol j R))
 have qf:=Y (zo w.heap.size tg [.slice ga gs.length gc,H fn,.slice aq fl.length cq,H uf,H ue,H uh,H ui,H uj,H ug,H uu,H ut] 0 w4 (U ud))
 have vK:Hid (∀ {e sz m:Nat} {v:Value} {xs:List Value},w4.ownsRow hb.heap.size e sz v m xs→World.ownsRow (w4.setCells w.heap.size 0 [.slice ga gs.length gc,H fn,.slice aq fl.length cq,H uf,H ue,H uh,H ui,H uj,H ug,H uu,H ut]) w.heap.size e sz v m xs):=fun {e sz m v xs} h=>by
  have h3:=cH (b:=w.heap.size) (fun e'=>by have:=(h.lt _ e'.symm).1; omega) [.slice ga gs.length gc,H fn,.slice aq fl.length cq,H uf,H ue,H uh,H ui,H uj,H ug,H uu,H ut] 0 _ h
  refine ⟨h3.1,?_⟩
  rcases h3.2 with k1 | ⟨g',c',xu,k1,k2,k3⟩
  ·exact .inl k1
  ·exact .inr ⟨g',c',xu,k1,by omega,k3⟩
 have HGG:Hid (GRs (w4.setCells w.heap.size 0 [.slice ga gs.length gc,H fn,.slice aq fl.length cq,H uf,H ue,H uh,H ui,H uj,H ug,H uu,H ut]) w.heap.size (.slice ga gs.length gc) fg):=⟨gs,U vK hg,jX,fun i g es Q N=>U vK (hge i g es Q N)⟩
 have HO:Hid (ORow (w4.setCells w.heap.size 0 [.slice ga gs.length gc,H fn,.slice aq fl.length cq,H uf,H ue,H uh,H ui,H uj,H ug,H uu,H ut]) w.heap.size (.slice aq fl.length cq) fl):=U vK hq
 clear vK hg jX hge hq xD hxs
 go_wp2_with fail
 change bodyPost _ _ _ _ _ (w4.setCells w.heap.size 0 [.slice ga gs.length gc,H fn,.slice aq fl.length cq,H uf,H ue,H uh,H ui,H uj,H ug,H uu,H ut])
 generalize w4.setCells w.heap.size 0 [.slice ga gs.length gc,H fn,.slice aq fl.length cq,H uf,H ue,H uh,H ui,H uj,H ug,H uu,H ut] = WE at xR qf HGG HO ⊢
 have d0:WE.cell? (yq w 0) = some (.slice ga gs.length gc):=U xR 0 _ rfl
 have d1:WE.cell? (yq w 1) = some (H fn):=U xR 1 _ rfl
 have d2:WE.cell? (yq w 2) = some (.slice aq fl.length cq):=U xR 2 _ rfl
 have d3:WE.cell? (yq w 3) = some (H uf):=U xR 3 _ rfl
 have d4:WE.cell? (yq w 4) = some (H ue):=U xR 4 _ rfl
 have d5:WE.cell? (yq w 5) = some (H uh):=U xR 5 _ rfl
 have d6:WE.cell? (yq w 6) = some (H ui):=U xR 6 _ rfl
 have d7:WE.cell? (yq w 7) = some (H uj):=U xR 7 _ rfl
 have d8:WE.cell? (yq w 8) = some (H ug):=U xR 8 _ rfl
 have d9:WE.cell? (yq w 9) = some (H uu):=U xR 9 _ rfl
 have d10:WE.cell? (yq w 10) = some (H ut):=U xR 10 _ rfl
 refine bodyPost_ret (by simp [results,Tryz.results11,go_sem,d0,d1,d2,d3,d4,d5,d6,d7,d8,d9,d10]; try rfl) rfl ?_
 rw [U HCD]
 exact ⟨_,_,rfl,U HGG,U HO,U qf⟩
end Go.Proofs.YtbakanofkghmiaaGreat
