/-
  A script run, by the model: proved by walking the function.
-/
import Derived.Test.YtbakanofkghmiaaGreatTj47
set_option linter.unusedVariables false
set_option maxHeartbeats 6400000
set_option maxRecDepth 100000
namespace Go.Proofs.YtbakanofkghmiaaGreat
open Go.RowKit
theorem lg_tot {w W:World} {gv:Value} {gs:List Value} {vq:Value} {n:Int} {l:List Od} {g:List (List Ev)} {t:Tot} (t':Tot) (h:LG w W gv gs vq ⟨n,l,g,t⟩):LG w W gv gs vq ⟨n,l,g,t'⟩:=⟨h.r,h.t,h.o,h.bx,h.g,h.gl,h.ge,h.q,h.b,h.z⟩
theorem run_few (cs:List Cm) (h:cs.length ≤ 200):∀ k,k ≤ cs.length→∀ es ∈ (runS (cs.take k)).g,es.length ≤ 100:=by
 intro k
 induction k with
 | zero=>intro _ es vk; simp [runS] at vk
 | succ k ih =>
  intro hk es vk
  obtain ⟨c,hc⟩:∃ c,cs[k]? = some c:=⟨_,yF (by omega)⟩
  have hi:=(run_take cs h k (by omega)).1
  have ih:=ih (by omega)
  rw [cz cs hc] at vk
  generalize runS (cs.take k) = s at hi ih vk
  rcases List.mem_append.1 (show es ∈ s.g ++ [stE s.n s.l c] from vk) with Q | Q
  ·exact ih es Q
  ·rw [List.mem_singleton.1 Q]; exact stE_len hi.good
theorem l04Run_any (v:Value) (cs:List Cm) (w:World) (hr:RdR Cm.vs 8 w v cs) (oL:∀ c ∈ cs,c.g.size ≤ maxLen) (jk:cs.length ≤ 200) :
  Calls Tryz.prog 34 #[v] w fun e w'=>∃ gv vq,e = yl (.agg #[gv,H (rsF cs).n,vq,H (rsF cs).t.gr,H (rsF cs).t.ac,H (rsF cs).t.rf,H (rsF cs).t.tr,H (rsF cs).t.vo,H (rsF cs).t.no,H (rsF cs).t.li,H (rsF cs).t.le])∧GRs w' w.heap.size gv (rsF cs).g∧ORow w' w.heap.size vq (rsF cs).l∧ym w w':=by
 have qF:=Y oL
 obtain ⟨a,E,rfl,xB,hc⟩:=hr
 have xo:∀ (k:Nat) (c:Cm),cs[k]? = some c→∃ b off,a = some (J b off)∧b < w.heap.size∧w.rangeAt b (off + k * 8) c.vs:=by
  intro k c hk
  obtain ⟨b,off,Q,N,h3⟩:=hc (by intro h; rw [h] at hk; simp at hk)
  exact ⟨b,off,Q,N,h3 k c hk⟩
 have HC:=Y xo
 clear xo hc oL
 have hsf:=sfl
 have HIV:=Y (run_take cs jk)
 have HF:Hid (rsF cs = { runS cs with t:=totM (runS cs).g (runS cs).l }):=Y (by rw [rsF,if_pos jk,tot_eq cs jk])
 generalize rsF cs = hb at HF ⊢
 obtain ⟨i0,uz,uA,uF,uR⟩:=info_parts infoEvS
 have hbX:=dm w (D #[.slice none 0 0,H 0,.slice none 0 0,H 0,H 0,H 0,H 0,H 0,H 0,H 0,H 0] 32)
 have HX:Hid ((w.alloc (D #[.slice none 0 0,H 0,.slice none 0 0,H 0,H 0,H 0,H 0,H 0,H 0,H 0,H 0] 32)).heap.size = w.heap.size + 1∧World.there (w.alloc (D #[.slice none 0 0,H 0,.slice none 0 0,H 0,H 0,H 0,H 0,H 0,H 0,H 0,H 0] 32)) w.heap.size 0 11∧ym w (w.alloc (D #[.slice none 0 0,H 0,.slice none 0 0,H 0,H 0,H 0,H 0,H 0,H 0,H 0,H 0] 32))):=⟨zf _ _,zt w [.slice none 0 0,H 0,.slice none 0 0,H 0,H 0,H 0,H 0,H 0,H 0,H 0,H 0] 32,hbX⟩
 clear hbX
 go_enter Tryz.func34,Tryz.ntmps34
 refine ds fun tg xq=>?_
 go_wp2_with fail
 refine U xq _ _ ?_
 clear xq
 generalize (w.alloc (D #[.slice none 0 0,H 0,.slice none 0 0,H 0,H 0,H 0,H 0,H 0,H 0,H 0,H 0] 32)) = hD at HX ⊢
 have hXs:=(U HX).1
 have HL:Hid (LG w (hD.alloc (D #[.slice none 0 0,H 1,.slice none 0 0,H 0,H 0,H 0,H 0,H 0,H 0,H 0,H 0] 32)) (.slice none 0 0) [] (.slice none 0 0) (runS (cs.take 0))):=by
  have b3:=dm hD (D #[.slice none 0 0,H 1,.slice none 0 0,H 0,H 0,H 0,H 0,H 0,H 0,H 0,H 0] 32)
  have r3:=zg hD [.slice none 0 0,H 1,.slice none 0 0,H 0,H 0,H 0,H 0,H 0,H 0,H 0,H 0] 32
  have t3:=zt hD [.slice none 0 0,H 1,.slice none 0 0,H 0,H 0,H 0,H 0,H 0,H 0,H 0,H 0] 32
  have k3:=heap_alloc_new hD (D #[.slice none 0 0,H 1,.slice none 0 0,H 0,H 0,H 0,H 0,H 0,H 0,H 0,H 0] 32)
  rw [hXs] at r3 t3 k3
  exact ⟨r3,t3,ze (U HX).2.1 b3 (by omega),⟨_,k3⟩,World.ownsRow_nil _ _ _ _,rfl,fun i g es hg=>by simp at hg,World.ownsRow_nil _ _ _ _,(U HX).2.2.trans (b3.mono (by omega)),by rw [zf]; omega⟩
 refine ds fun tg xq=>?_
 go_wp2_with fail
 refine U xq _ _ ?_
 clear xq
 generalize (hD.alloc (D #[.slice none 0 0,H 1,.slice none 0 0,H 0,H 0,H 0,H 0,H 0,H 0,H 0,H 0] 32)) = yb at HL ⊢
 clear hXs HX
 refine ds fun tg xq=>?_
 go_wp2_with fail
 go_loopw [4] (fun iv wr=>∃ (k:Nat),k ≤ cs.length∧iv = H k∧Hid (∃ gv gs vq,LG w wr gv gs vq (runS (cs.take k)))) (fun iv _=>cs.length - (intOf iv).toNat)
 case atStart=>exact ⟨0,Nat.zero_le _,rfl,_,_,_,U HL⟩
 case round =>
  obtain ⟨k,hk,rfl,uq⟩:=hrel
  obtain ⟨gv,gs,vq,hlg⟩:=U uq
  have HG:=Y hlg
  clear uq hlg
  by_cases xH:k < cs.length
  ·obtain ⟨c,uW⟩:∃ c,cs[k]? = some c:=⟨_,yF xH⟩
   obtain ⟨b,off,rfl,F,L⟩:=U HC k c uW
   have qv:Hid (runS (cs.take (k + 1)) = rstep (runS (cs.take k)) c):=cz cs uW
   have uu:(k:Int) < cs.length:=by omega
   obtain ⟨oI,hi2,hi3,hi4⟩:=U HIV k hk
   have htge:=U qF c (yM uW)
   have HCM:=Y (zb L (U HG).b F)
   have hbw:b < wr.heap.size:=yH F (U HG).b.size
   generalize runS (cs.take k) = s at qv oI hi2 hi3 hi4 HG
   obtain ⟨n,l,gl,t⟩:=s
   simp only [rstep] at qv
   simp only at oI hi2 hi3 hi4
   have oq:=oI.good.len
   obtain ⟨aq0,cq0,hv⟩:=zQ (U HG).q
   simp only at hv
   subst hv
   have HGS:Hid (gs.length = k):=(U HG).gl.trans hi4
   clear hi4
   have oD:=Y (U HG).g
   obtain ⟨ga,gc,hgv⟩:=zQ (U oD)
   subst hgv
   have HRO:Hid (RdR Od.vs 6 wr (.slice aq0 l.length cq0) l):=zK (U HG).q (by omega)
   have uE:=Y (fun (V:World) hV=>l04Step_any n (.slice aq0 l.length cq0) l c V hV (oRow_sl (U HG).q) oI.good oI.side (by omega) (by omega) htge)
   have HLN:=Y (stE_len (c:=c) (next:=n) oI.good)
   have HLL:=Y (stL_len (c:=c) (next:=n) oI.good)
   generalize stN n l c = h2 at qv uE
   generalize stL n l c = xm at qv uE HLL
   generalize stE n l c = xj at qv uE HLN
   unfold cmV at uE
   have qM:=(U HG).z
   clear uW L oI htge
   go_wp2_with fail
   refine zh (RG wr (fun f=>{ tmps:=#[.slice (some (J b off)) cs.length E,M,I w.heap.size 0,I (w.heap.size + 1) 0,H k,f 10,f 12,.agg #[H 1,.slice none 0 0],.agg #[.slice none 0 0,H 1,.slice none 0 0,H 0,H 0,H 0,H 0,H 0,H 0,H 0,H 0],H k,.slice (some (J b off)) cs.length E,H cs.length,.bool true,u13,u14,f 7,f 0,f 1,f 2,f 3,f 4,f 5,f 6,f 8,f 9,u25,u26,u27,u28,u29,u30,u31,u32,M,M,M,M,M,M,M],defers:=[] }) 11 (DP [I (w.heap.size + 1) 1,.agg #[H n,.slice aq0 l.length cq0],.slice (some (J b off)) cs.length E,H k,I b (off + k * 8),.agg (yv c.k c.s c.t c.l c.q c.i c.p c.g).toArray] [(6,2),(7,2),(8,3),(9,4),(10,5),(11,9),(12,4)] wr.heap.size n h2 l xm xj)) (by kernel_rfl) ?_ ?_ ?_
   ·exact ⟨fun j=>([u16,u17,u18,u19,u20,u21,u22,u15,u23,u24,u5,M,u6]:List Value)[j]?.getD M,rfl,⟨rfl,rfl,rfl,Nat.le_refl _,fun _ _=>rfl⟩,fun j R=>by rw [yG] at R; split at R <;> simp at R⟩
   rotate_left
   ·rintro x hR V i op ⟨f,rfl,xh,X⟩ L hx Z xu G
    have xr:=Y xh
    have HD:=Y X
    match i,Z with
    | 0,Z =>
     obtain rfl:=ya Z
     clear G X xh L
     rw [if_pos (by rfl)];unfold Oper.wp;go_simp
     exact ⟨upd f 0 (I (w.heap.size + 1) 1),by simp [upd],zd (U xr) (U HD) (by decide) (dp_mkv rfl rfl)⟩
    | 1,Z =>
     obtain rfl:=ya Z
     have g0:f 0 = I (w.heap.size + 1) 1:=dp_val (X 0 (yd G 0 rfl)) rfl rfl
     have y1:=zb (U HG).r xh (by omega) 1 _ rfl
     have y2:=zb (U HG).r xh (by omega) 2 _ rfl
     simp only [Nat.zero_add] at y1 y2
     clear G X xh L
     rw [if_pos (by rfl)];unfold Oper.wp;go_simp
     exact ⟨upd f 1 (.agg #[H n,.slice aq0 l.length cq0]),by simp [upd,g0],zd (U xr) (U HD) (by decide) (dp_mkv rfl rfl)⟩
    | 2,Z =>
     obtain rfl:=ya Z
     clear G X xh L
     rw [if_pos (by rfl)];unfold Oper.wp;go_simp
     exact ⟨upd f 2 (.slice (some (J b off)) cs.length E),by simp [upd],zd (U xr) (U HD) (by decide) (dp_mkv rfl rfl)⟩
    | 3,Z =>
     obtain rfl:=ya Z
     clear G X xh L
     rw [if_pos (by rfl)];unfold Oper.wp;go_simp
     exact ⟨upd f 3 (H k),by simp [upd],zd (U xr) (U HD) (by decide) (dp_mkv rfl rfl)⟩
    | 4,Z =>
     obtain rfl:=ya Z
     have g2:f 2 = .slice (some (J b off)) cs.length E:=dp_val (X 2 (yd G 2 rfl)) rfl rfl
     have g3:f 3 = H k:=dp_val (X 3 (yd G 3 rfl)) rfl rfl
     clear G X xh L
     rw [if_pos (by rfl)];unfold Oper.wp;go_simp
     exact ⟨upd f 4 (I b (off + k * 8)),by simp [upd,g2,g3],zd (U xr) (U HD) (by decide) (dp_mkv rfl rfl)⟩
    | 5,Z =>
     obtain rfl:=ya Z
     have g4:f 4 = I b (off + k * 8):=dp_val (X 4 (yd G 4 rfl)) rfl rfl
     obtain ⟨q0,q1,q2,q3,q4,q5,q6,q7⟩:=cm_cells (zb (U HCM) xh hbw)
     clear G X xh L
     rw [if_pos (by rfl)];unfold Oper.wp;go_simp
     exact ⟨upd f 5 (.agg (yv c.k c.s c.t c.l c.q c.i c.p c.g).toArray),by simp [upd,g4],zd (U xr) (U HD) (by decide) (dp_mkv rfl rfl)⟩
    | 6,Z =>
     obtain rfl:=ya Z
     have g1:f 1 = .agg #[H n,.slice aq0 l.length cq0]:=dp_val (X 1 (yd G 1 rfl)) rfl rfl
     have g5:f 5 = .agg (yv c.k c.s c.t c.l c.q c.i c.p c.g).toArray:=dp_val (X 5 (yd G 5 rfl)) rfl rfl
     have hS:=xh.size
     have HRV:=Y (zl (U HRO) xh qt)
     clear G X xh L
     rw [if_pos (by rfl)];unfold Oper.wp;go_simp
     refine (U uE V (U HRV)).mono ?_
     rintro e w4 ⟨vq,vg,rfl,pN,he4,xz⟩
     obtain ⟨aq,cq,rfl⟩:=zQ pN
     obtain ⟨ag,cg,rfl⟩:=zQ he4
     exact ⟨upd f 6 (.tuple #[.agg #[H h2,.slice aq xm.length cq],.slice ag xj.length cg]),by simp [upd,g1,g5],bR dp_grow (U xr) (U HD) xz (by decide) (dp_mk2 rfl ⟨aq,cq,ag,cg,rfl,zF pN hS,zF he4 hS⟩)⟩
    | 7,Z =>
     obtain rfl:=ya Z
     obtain ⟨aq,cq,ag,cg,g,N,h3⟩:=dp_2 (X 6 (yd G 6 rfl)) rfl
     have H2:=Y N
     have H3:=Y h3
     clear N h3
     clear G X xh L
     rw [if_pos (by rfl)];unfold Oper.wp;go_simp
     exact ⟨upd f 7 (.tuple #[.agg #[H h2,.slice aq xm.length cq],.slice ag xj.length cg]),by simp [upd,g],zd (U xr) (U HD) (by decide) (dp_mk2 rfl ⟨aq,cq,ag,cg,rfl,U H2,U H3⟩)⟩
    | 8,Z =>
     obtain rfl:=ya Z
     obtain ⟨aq,cq,ag,cg,g,N,h3⟩:=dp_2 (X 7 (yd G 7 rfl)) rfl
     have H2:=Y N
     have H3:=Y h3
     clear N h3
     clear G X xh L
     rw [if_pos (by rfl)];unfold Oper.wp;go_simp
     exact ⟨upd f 8 (.agg #[H h2,.slice aq xm.length cq]),by simp [upd,g],zd (U xr) (U HD) (by decide) (dp_mk3 rfl ⟨aq,cq,rfl,U H2⟩)⟩
    | 9,Z =>
     obtain rfl:=ya Z
     obtain ⟨aq,cq,ag,cg,g,N,h3⟩:=dp_2 (X 7 (yd G 7 rfl)) rfl
     have H2:=Y N
     have H3:=Y h3
     clear N h3
     clear G X xh L
     rw [if_pos (by rfl)];unfold Oper.wp;go_simp
     exact ⟨upd f 9 (.slice ag xj.length cg),by simp [upd,g],zd (U xr) (U HD) (by decide) (dp_mk4 rfl ⟨ag,cg,rfl,U H3⟩)⟩
    | 10,Z =>
     obtain rfl:=ya Z
     have hp:¬ x[11]? = some true:=by rw [zv L 12 10 11 (by kernel_rfl) hx (by simp) xu]; simp
     have hS:=xh.size
     clear G X xh L
     rw [if_pos (by rfl)];unfold Oper.wp;go_simp
     exact ⟨upd f 10 (I V.heap.size 0),by simp [upd],bR dp_grow (U xr) (U HD) (dm _ _) (by decide) (dp_mk5 rfl hp hS)⟩
    | 11,Z =>
     obtain rfl:=ya Z
     obtain ⟨aq,cq,g6,ho6⟩:=dp_3 (X 8 (yd G 8 rfl)) rfl
     obtain ⟨b0,g9,hSb,hlt0,xD,qT,-⟩:=dp_5 (X 10 (yd G 10 rfl)) rfl
     have HSX:Hid (∀ j,j ≠ 11→x[j]? = some true→DP [I (w.heap.size + 1) 1,.agg #[H n,.slice aq0 l.length cq0],.slice (some (J b off)) cs.length E,H k,I b (off + k * 8),.agg (yv c.k c.s c.t c.l c.q c.i c.p c.g).toArray] [(6,2),(7,2),(8,3),(9,4),(10,5),(11,9),(12,4)] wr.heap.size n h2 l xm xj False V j (f j)→DP [I (w.heap.size + 1) 1,.agg #[H n,.slice aq0 l.length cq0],.slice (some (J b off)) cs.length E,H k,I b (off + k * 8),.agg (yv c.k c.s c.t c.l c.q c.i c.p c.g).toArray] [(6,2),(7,2),(8,3),(9,4),(10,5),(11,9),(12,4)] wr.heap.size n h2 l xm xj True (V.setCells b0 0 [H h2,.slice aq xm.length cq]) j (f j)):=fun j R hxj h=>dp_store hSb xD hlt0 qT ho6 (fun hk=>by rw [look_only hk (i:=10) (by decide)]; exact g9) h
     have uf:=Y (zm b0 hSb [H h2,.slice aq xm.length cq] 0 _ xh)
     obtain ⟨p0,x0,f0⟩:=zc xD (j:=0) (by omega)
     obtain ⟨p1,x1,f1⟩:=zc xD (j:=1) (by omega)
     clear G X xh L xD qT ho6
     rw [if_pos (by rfl)];unfold Oper.wp;go_simp
     exact ⟨f,by simp [g6,g9],rg_write2 (U uf) (U HD) xu (U HSX) (dp_mk9 rfl)⟩
    | 12,Z =>
     obtain rfl:=ya Z
     obtain ⟨ag,cg,g,h3⟩:=dp_4 (X 9 (yd G 9 rfl)) rfl
     have H3:=Y h3
     clear h3
     clear G X xh L
     rw [if_pos (by rfl)];unfold Oper.wp;go_simp
     exact ⟨upd f 12 (.slice ag xj.length cg),by simp [upd,g],zd (U xr) (U HD) (by decide) (dp_mk4 rfl ⟨ag,cg,rfl,U H3⟩)⟩
    | n + 13,Z=>simp at Z
   ·rintro x hR V ⟨f,rfl,xh,X⟩ hx xM
    have xn:=zO xM hx (by kernel_rfl)
    obtain ⟨ag,cg,e12,hge⟩:=dp_4 (X 12 (xn 12 (by simp))) rfl
    obtain ⟨bb,kY,hSb,hltb,-,hbxb,vy⟩:=dp_5 (X 10 (xn 10 (by simp))) rfl
    obtain ⟨aq,cq,hra,hro⟩:=vy (xn 11 (by simp))
    simp only [e12,kY]
    have jF:=Y (lg_below (U HG) xh)
    have HOV:=Y (zF hro qM)
    have vv:=Y (zF hge qM)
    have x0:V.cell? (J bb 0) = some (H h2):=hra 0 _ rfl
    have x1:V.cell? (J bb 1) = some (.slice aq xm.length cq):=hra 1 _ rfl
    obtain ⟨y1,z1,q1⟩:=zc (U jF).t (j:=1) (by omega)
    obtain ⟨y2,z2,q2⟩:=zc (U jF).t (j:=2) (by omega)
    have m0:V.cell? (J (w.heap.size + 1) 0) = some (.slice ga gs.length gc):=(U jF).r 0 _ rfl
    clear e12 hge kY hltb hbxb vy hra hro X xn xM hx xh
    generalize f 0 = v0,f 1 = v1,f 2 = v2,f 3 = v3,f 4 = v4,f 5 = v5,f 6 = v6,f 7 = v7,f 8 = v8,f 9 = v9
    rename_i KA haA
    refine haA _ _ ?_
    clear haA KA
    refine ds fun K2 jQ=>?_
    go_wp2_with fail
    refine U jQ _ _ ?_
    clear jQ x0 x1 z1 q1 z2 q2 m0
    have HLB:=Y (lg_book (U jF) h2 xm (U HOV))
    have ji:=Y (zr (zr (U vv) (zj (U vv) (U jF).bx (by decide)) 1 (H h2)) (zj (U vv) (U jF).bx (by decide)) 2 (.slice aq xm.length cq))
    clear jF vv HOV
    generalize (V.setCell (J (w.heap.size + 1) 1) (H h2)).setCell (J (w.heap.size + 1) 2) (.slice aq xm.length cq) = V1 at HLB ji ⊢
    have m0:V1.cell? (J (w.heap.size + 1) 0) = some (.slice ga gs.length gc):=(U HLB).r 0 _ rfl
    refine wp_region_lit ?_
    refine wpList_step fun K3 vJ=>?_
    have vp:=Y vJ
    clear vJ
    rw [if_pos (by rfl)];unfold Oper.wp;go_simp
    refine U vp _ _ ?_
    clear vp
    refine wpList_step fun K3 vJ=>?_
    have vp:=Y vJ
    clear vJ
    rw [if_pos (by rfl)];unfold Oper.wp;go_simp
    refine U vp _ _ ?_
    clear vp
    refine wpList_step fun K3 vJ=>?_
    have vp:=Y vJ
    clear vJ
    rw [if_pos (by rfl)];unfold Oper.wp;go_simp
    refine U vp _ _ ?_
    clear vp
    refine wpList_step fun K3 vJ=>?_
    have vp:=Y vJ
    clear vJ
    rw [if_pos (by rfl)];unfold Oper.wp;go_simp
    refine U vp _ _ ?_
    clear vp
    have bA:=dm V1 (D #[.slice ag xj.length cg] 38)
    have jj:=Y (lg_below (U HLB) bA)
    have HEC:=Y (zG (U ji) bA)
    have kQ:(V1.alloc (D #[.slice ag xj.length cg] 38)).cell? (J V1.heap.size 0) = some (.slice ag xj.length cg):=zg V1 [.slice ag xj.length cg] 38 0 _ rfl
    generalize V1.alloc (D #[.slice ag xj.length cg] 38) = V2 at jj HEC kQ ⊢
    generalize V1.heap.size = vs at kQ ⊢
    clear bA HLB ji m0
    refine wpList_step fun K3 vJ=>?_
    have vp:=Y vJ
    clear vJ
    rw [if_pos (by rfl)]
    refine wp_append_own V2 (.tmp 28) (.tmp 30) 25 rfl (w.heap.size + 1 + 1) 38 i0 _ 1 24 Tryz.underlying25 uz uA uF uR rfl (by decide) (.slice ga gs.length gc) gs.length gs rfl (U jj).g (J vs 0) 1 1 [.slice ag xj.length cg] rfl rfl (fun j u hu=>by match j,hu with | 0,hu=>cases hu; rw [Addr.add_mid]; exact kQ | j + 1,hu=>simp at hu) (by intro u hu; simp at hu; subst hu; rfl) (by have:=U HGS; unfold maxLen; omega) (by have:=U HGS; omega) (by have:=(U jj).z; omega) ?_
    intro v' w' xK uh _
    have HOW:Hid (GRow w' (w.heap.size + 1 + 1) v' (gs ++ [Value.slice ag xj.length cg])):=by show w'.ownsRow _ _ _ _ (gs ++ [Value.slice ag xj.length cg]).length _; rw [yN]; exact xK
    obtain ⟨ga',gc',hv'⟩:=zQ (U HOW)
    subst hv'
    have HLD:=Y (lg_group (U jj) (U HEC) (U HOW) uh)
    obtain ⟨y0,z0,q0⟩:=zc (zY (U jj).t uh (by have:=(U jj).z; omega) (zj (U jj).g (U jj).bx (by decide))) (j:=0) (by omega)
    clear xK uh jj HEC kQ
    refine U vp _ _ ?_
    clear vp
    refine wpList_step fun K3 vJ=>?_
    have vp:=Y vJ
    clear vJ
    rw [if_pos (by rfl)];unfold Oper.wp;go_simp
    refine U vp _ _ ?_
    clear vp
    refine wpList_step fun K3 vJ=>?_
    have vp:=Y vJ
    clear vJ
    rw [if_pos (by rfl)];unfold Oper.wp;go_simp
    refine U vp _ _ ?_
    clear vp
    have elen:(gs ++ [Value.slice ag xj.length cg]).length = gs.length + 1:=by simp
    rw [elen] at HLD
    clear elen
    generalize w'.setCell (J (w.heap.size + 1) 0) (.slice ga' (gs.length + 1) gc') = V3 at HLD ⊢
    clear z0 q0
    refine wpList_nil ?_
    go_wp2_with fail
    go_roundw
    case rel=>exact ⟨k + 1,by omega,by go_num,_,_,_,by rw [U qv]; exact lg_tot _ (U HLD)⟩
    case measure=>simp [intOf]; omega
  ·have uu:¬ (k:Int) < cs.length:=by omega
   rw [yX (by omega)] at HG
   have HFW:=Y (run_few cs jk cs.length qt)
   have HRI:=Y (run_inv cs jk)
   rw [yX qt] at HFW
   go_wp2_with fail
   refine U xq _ _ ?_
   clear xq xH uu
   generalize runS cs = s at HG HF HFW HRI
   obtain ⟨n,l,gl,t⟩:=s
   simp only at HF HFW HRI
   obtain ⟨aq,cq,hv⟩:=zQ (U HG).q
   simp only at hv
   subst hv
   obtain ⟨ga,gc,hgv⟩:=zQ (U HG).g
   subst hgv
   have oj:gs.length = gl.length:=(U HG).gl
   have HGD:=Y (grs_rd (U HG).g oj (U HG).ge (by have:=(U HRI).2.2.2; omega) (fun es vk=>yL (U HFW es vk) (by omega)))
   have HOD:Hid (RdR Od.vs 6 wr (.slice aq l.length cq) l):=zK (U HG).q (by have:=(U HRI).1.good.len; omega)
   have kj:=Y oj
   clear oj
   have HTO:=Y (l04Totals_any _ gl n _ l wr (U HGD) (U HOD))
   generalize totM gl l = T at HTO HF
   obtain ⟨ua,xZ,uc,ud,ue,ub,uo,un⟩:=T
   simp only at HTO
   have m0:wr.cell? (J (w.heap.size + 1) 0) = some (.slice ga gs.length gc):=(U HG).r 0 _ rfl
   have m1:wr.cell? (J (w.heap.size + 1) 1) = some (H n):=(U HG).r 1 _ rfl
   have m2:wr.cell? (J (w.heap.size + 1) 2) = some (.slice aq l.length cq):=(U HG).r 2 _ rfl
   refine ds fun tg xq=>?_
   go_wp2_with fail
   refine (U HTO).mono ?_
   rintro e V2 ⟨rfl,xU⟩
   clear m0 m1 m2
   have uI:=Y (lg_below (U HG) xU)
   clear xU
   have uR:=(U uI).z
   obtain ⟨y3,z3,q3⟩:=zc (U uI).t (j:=3) (by omega)
   obtain ⟨y4,z4,q4⟩:=zc (U uI).t (j:=4) (by omega)
   obtain ⟨y5,z5,q5⟩:=zc (U uI).t (j:=5) (by omega)
   obtain ⟨y6,z6,q6⟩:=zc (U uI).t (j:=6) (by omega)
   obtain ⟨y7,z7,q7⟩:=zc (U uI).t (j:=7) (by omega)
   obtain ⟨y8,z8,q8⟩:=zc (U uI).t (j:=8) (by omega)
   obtain ⟨y9,z9,q9⟩:=zc (U uI).t (j:=9) (by omega)
   obtain ⟨y10,z10,q10⟩:=zc (U uI).t (j:=10) (by omega)
   go_wp2_with fail
   refine U xq _ _ ?_
   clear xq z3 q3 z4 q4 z5 q5 z6 q6 z7 q7 z8 q8 z9 q9 z10 q10
   change Code.wp _ _ _ _ (V2.setCells (w.heap.size + 1) 3 (Tot.mk ua xZ uc ud ue ub uo un).vs)
   have jx:Hid (V2.there (w.heap.size + 1) 3 8):=fun j R=>by
    have:=(U uI).t (3 + j) (by omega)
    rwa [Nat.zero_add] at this
   have kK:=Y (yV V2 (w.heap.size + 1) 3 (Tot.mk ua xZ uc ud ue ub uo un).vs (fun j R=>U jx j (by simpa [Tot.vs] using R)))
   have HC0:Hid (∀ j u,j < 3→V2.cell? (J (w.heap.size + 1) j) = some u→(V2.setCells (w.heap.size + 1) 3 (Tot.mk ua xZ uc ud ue ub uo un).vs).cell? (J (w.heap.size + 1) j) = some u):=fun j u R hu=>(World.cell?_setCells_out (w.heap.size + 1) _ 3 V2 (J (w.heap.size + 1) j) (fun _ _=>.inl R)).trans hu
   have qn:Hid (World.there (V2.setCells (w.heap.size + 1) 3 (Tot.mk ua xZ uc ud ue ub uo un).vs) w.heap.size 0 11):=there_blk (U uI).o (bT (w.heap.size + 1) w.heap.size (by omega) _ 3 V2)
   have xr:=Y (zm (w.heap.size + 1) (by omega) (Tot.mk ua xZ uc ud ue ub uo un).vs 3 V2 (U uI).b)
   have vD:Hid (∀ {e sz m:Nat} {v:Value} {xs:List Value},V2.ownsRow (w.heap.size + 1 + 1) e sz v m xs→32 ≠ e→World.ownsRow ((V2.setCells (w.heap.size + 1) 3 (Tot.mk ua xZ uc ud ue ub uo un).vs).setCells w.heap.size 0 [.slice ga gs.length gc,H n,.slice aq l.length cq,H ua,H xZ,H uc,H ud,H ue,H ub,H uo,H un]) w.heap.size e sz v m xs):=fun {e sz m v xs} h hne'=>row_end h (zj h (U uI).bx hne') (Below.refl _ _) (by omega) (by omega) _ _ _ _
   generalize V2.setCells (w.heap.size + 1) 3 (Tot.mk ua xZ uc ud ue ub uo un).vs = V at kK HC0 qn xr vD ⊢
   have m0:=U HC0 0 _ (by omega) ((U uI).r 0 _ rfl)
   have m1:=U HC0 1 _ (by omega) ((U uI).r 1 _ rfl)
   have m2:=U HC0 2 _ (by omega) ((U uI).r 2 _ rfl)
   simp only at m1
   have m3:V.cell? (J (w.heap.size + 1) 3) = some (H ua):=U kK 0 _ rfl
   have m4:V.cell? (J (w.heap.size + 1) 4) = some (H xZ):=U kK 1 _ rfl
   have m5:V.cell? (J (w.heap.size + 1) 5) = some (H uc):=U kK 2 _ rfl
   have m6:V.cell? (J (w.heap.size + 1) 6) = some (H ud):=U kK 3 _ rfl
   have m7:V.cell? (J (w.heap.size + 1) 7) = some (H ue):=U kK 4 _ rfl
   have m8:V.cell? (J (w.heap.size + 1) 8) = some (H ub):=U kK 5 _ rfl
   have m9:V.cell? (J (w.heap.size + 1) 9) = some (H uo):=U kK 6 _ rfl
   have m10:V.cell? (J (w.heap.size + 1) 10) = some (H un):=U kK 7 _ rfl
   obtain ⟨y0,z0,q0⟩:=zc (U qn) (j:=0) (by omega)
   obtain ⟨y1,z1,q1⟩:=zc (U qn) (j:=1) (by omega)
   obtain ⟨y2,z2,q2⟩:=zc (U qn) (j:=2) (by omega)
   obtain ⟨y3,z3,q3⟩:=zc (U qn) (j:=3) (by omega)
   obtain ⟨y4,z4,q4⟩:=zc (U qn) (j:=4) (by omega)
   obtain ⟨y5,z5,q5⟩:=zc (U qn) (j:=5) (by omega)
   obtain ⟨y6,z6,q6⟩:=zc (U qn) (j:=6) (by omega)
   obtain ⟨y7,z7,q7⟩:=zc (U qn) (j:=7) (by omega)
   obtain ⟨y8,z8,q8⟩:=zc (U qn) (j:=8) (by omega)
   obtain ⟨y9,z9,q9⟩:=zc (U qn) (j:=9) (by omega)
   obtain ⟨y10,z10,q10⟩:=zc (U qn) (j:=10) (by omega)
   have xN:=Y (yV V w.heap.size 0 [.slice ga gs.length gc,H n,.slice aq l.length cq,H ua,H xZ,H uc,H ud,H ue,H ub,H uo,H un] (fun j R=>U qn j R))
   have vX:=Y (zm w.heap.size qt [.slice ga gs.length gc,H n,.slice aq l.length cq,H ua,H xZ,H uc,H ud,H ue,H ub,H uo,H un] 0 V (U xr))
   have HGG:Hid (GRs (V.setCells w.heap.size 0 [.slice ga gs.length gc,H n,.slice aq l.length cq,H ua,H xZ,H uc,H ud,H ue,H ub,H uo,H un]) w.heap.size (.slice ga gs.length gc) gl):=⟨gs,U vD (U uI).g (by decide),U kj,fun i g es hg vk=>U vD ((U uI).ge i g es hg vk) (by decide)⟩
   have HO:Hid (ORow (V.setCells w.heap.size 0 [.slice ga gs.length gc,H n,.slice aq l.length cq,H ua,H xZ,H uc,H ud,H ue,H ub,H uo,H un]) w.heap.size (.slice aq l.length cq) l):=U vD (U uI).q (by decide)
   clear vD
   go_wp2_with fail
   change bodyPost _ _ _ _ _ (V.setCells w.heap.size 0 [.slice ga gs.length gc,H n,.slice aq l.length cq,H ua,H xZ,H uc,H ud,H ue,H ub,H uo,H un])
   generalize V.setCells w.heap.size 0 [.slice ga gs.length gc,H n,.slice aq l.length cq,H ua,H xZ,H uc,H ud,H ue,H ub,H uo,H un] = WE at xN vX HGG HO ⊢
   obtain rfl:=U HF
   have d0:WE.cell? (J w.heap.size 0) = some (.slice ga gs.length gc):=U xN 0 _ rfl
   have d1:WE.cell? (J w.heap.size 1) = some (H n):=U xN 1 _ rfl
   have d2:WE.cell? (J w.heap.size 2) = some (.slice aq l.length cq):=U xN 2 _ rfl
   have d3:WE.cell? (J w.heap.size 3) = some (H ua):=U xN 3 _ rfl
   have d4:WE.cell? (J w.heap.size 4) = some (H xZ):=U xN 4 _ rfl
   have d5:WE.cell? (J w.heap.size 5) = some (H uc):=U xN 5 _ rfl
   have d6:WE.cell? (J w.heap.size 6) = some (H ud):=U xN 6 _ rfl
   have d7:WE.cell? (J w.heap.size 7) = some (H ue):=U xN 7 _ rfl
   have d8:WE.cell? (J w.heap.size 8) = some (H ub):=U xN 8 _ rfl
   have d9:WE.cell? (J w.heap.size 9) = some (H uo):=U xN 9 _ rfl
   have d10:WE.cell? (J w.heap.size 10) = some (H un):=U xN 10 _ rfl
   refine bodyPost_ret (by simp [results,Tryz.results34,go_sem,d0,d1,d2,d3,d4,d5,d6,d7,d8,d9,d10]; try rfl) rfl ?_
   exact ⟨_,_,rfl,U HGG,U HO,U vX⟩
end Go.Proofs.YtbakanofkghmiaaGreat
