/-
  A script run, by the model: proved by walking the function.
-/
import Derived.Test.YtdliebbfcmdmaaaGreatMj47
set_option linter.unusedVariables false
set_option maxHeartbeats 6400000
set_option maxRecDepth 100000
namespace Go.Proofs.YtdliebbfcmdmaaaGreat
open Go.RowKit
theorem lg_tot {w W:World} {gv:Value} {gs:List Value} {vq:Value} {n:Int} {l:List Od} {g:List (List Ev)} {t:Tot} (t':Tot) (h:LG w W gv gs vq ⟨n,l,g,t⟩):LG w W gv gs vq ⟨n,l,g,t'⟩:=⟨h.r,h.t,h.o,h.bx,h.g,h.gl,h.ge,h.q,h.b,h.z⟩
theorem run_few (cs:List Cm) (h:cs.length ≤ 200):∀ k,k ≤ cs.length→∀ es ∈ (runS (cs.take k)).g,es.length ≤ 100:=by
 intro k
 induction k with
 | zero=>intro _ es vi; simp [runS] at vi
 | succ k ih =>
  intro hk es vi
  obtain ⟨c,hc⟩:∃ c,cs[k]? = some c:=⟨_,yH (by omega)⟩
  have hi:=(cO cs h k (by omega)).1
  have ih:=ih (by omega)
  rw [cB cs hc] at vi
  generalize runS (cs.take k) = s at hi ih vi
  rcases List.mem_append.1 (show es ∈ s.g ++ [stE s.n s.l c] from vi) with Q | Q
  ·exact ih es Q
  ·rw [List.mem_singleton.1 Q]; exact stE_len hi.good
theorem l04Run_any (v:Value) (cs:List Cm) (w:World) (hr:RdR Cm.vs 8 w v cs) (pM:∀ c ∈ cs,c.g.size ≤ maxLen) (jt:cs.length ≤ 200) :
  Calls Tryz.prog 16 #[v] w fun e w'=>∃ gv vq,e = ym (.agg #[gv,H (rsF cs).n,vq,H (rsF cs).t.gr,H (rsF cs).t.ac,H (rsF cs).t.rf,H (rsF cs).t.tr,H (rsF cs).t.vo,H (rsF cs).t.no,H (rsF cs).t.li,H (rsF cs).t.le])∧GRs w' w.heap.size gv (rsF cs).g∧ORow w' w.heap.size vq (rsF cs).l∧yn w w':=by
 have qI:=Y pM
 obtain ⟨a,A,rfl,xD,hc⟩:=hr
 have xq:∀ (k:Nat) (c:Cm),cs[k]? = some c→∃ b off,a = some (J b off)∧b < w.heap.size∧w.rangeAt b (off + k * 8) c.vs:=by
  intro k c hk
  obtain ⟨b,off,Q,N,h3⟩:=hc (by intro h; rw [h] at hk; simp at hk)
  exact ⟨b,off,Q,N,h3 k c hk⟩
 have HC:=Y xq
 clear xq hc pM
 have hsf:=sfl
 have HIV:=Y (cO cs jt)
 have HF:Hid (rsF cs = { runS cs with t:=totM (runS cs).g (runS cs).l }):=Y (by rw [rsF,if_pos jt,tot_eq cs jt])
 generalize rsF cs = qt at HF ⊢
 obtain ⟨i0,uE,uA,uC,uM⟩:=info_parts infoEvS
 have hbX:=ed w (E #[.slice none 0 0,H 0,.slice none 0 0,H 0,H 0,H 0,H 0,H 0,H 0,H 0,H 0] 35)
 have HX:Hid ((w.alloc (E #[.slice none 0 0,H 0,.slice none 0 0,H 0,H 0,H 0,H 0,H 0,H 0,H 0,H 0] 35)).heap.size = w.heap.size + 1∧World.there (w.alloc (E #[.slice none 0 0,H 0,.slice none 0 0,H 0,H 0,H 0,H 0,H 0,H 0,H 0,H 0] 35)) w.heap.size 0 11∧yn w (w.alloc (E #[.slice none 0 0,H 0,.slice none 0 0,H 0,H 0,H 0,H 0,H 0,H 0,H 0,H 0] 35))):=⟨ze _ _,zu w [.slice none 0 0,H 0,.slice none 0 0,H 0,H 0,H 0,H 0,H 0,H 0,H 0,H 0] 35,hbX⟩
 clear hbX
 go_enter Tryz.func16,Tryz.ntmps16
 refine ei fun hR xu=>?_
 go_wp2_with fail
 refine U xu _ _ ?_
 clear xu
 generalize (w.alloc (E #[.slice none 0 0,H 0,.slice none 0 0,H 0,H 0,H 0,H 0,H 0,H 0,H 0,H 0] 35)) = ty at HX ⊢
 have hXs:=(U HX).1
 have HL:Hid (LG w (ty.alloc (E #[.slice none 0 0,H 1,.slice none 0 0,H 0,H 0,H 0,H 0,H 0,H 0,H 0,H 0] 35)) (.slice none 0 0) [] (.slice none 0 0) (runS (cs.take 0))):=by
  have b3:=ed ty (E #[.slice none 0 0,H 1,.slice none 0 0,H 0,H 0,H 0,H 0,H 0,H 0,H 0,H 0] 35)
  have r3:=zg ty [.slice none 0 0,H 1,.slice none 0 0,H 0,H 0,H 0,H 0,H 0,H 0,H 0,H 0] 35
  have t3:=zu ty [.slice none 0 0,H 1,.slice none 0 0,H 0,H 0,H 0,H 0,H 0,H 0,H 0,H 0] 35
  have k3:=heap_alloc_new ty (E #[.slice none 0 0,H 1,.slice none 0 0,H 0,H 0,H 0,H 0,H 0,H 0,H 0,H 0] 35)
  rw [hXs] at r3 t3 k3
  exact ⟨r3,t3,zf (U HX).2.1 b3 (by omega),⟨_,k3⟩,World.ownsRow_nil _ _ _ _,rfl,fun i g es hg=>by simp at hg,World.ownsRow_nil _ _ _ _,(U HX).2.2.trans (b3.mono (by omega)),by rw [ze]; omega⟩
 refine ei fun hR xu=>?_
 go_wp2_with fail
 refine U xu _ _ ?_
 clear xu
 generalize (ty.alloc (E #[.slice none 0 0,H 1,.slice none 0 0,H 0,H 0,H 0,H 0,H 0,H 0,H 0,H 0] 35)) = yb at HL ⊢
 clear hXs HX
 refine ei fun hR xu=>?_
 go_wp2_with fail
 go_loopw [4] (fun iv wr=>∃ (k:Nat),k ≤ cs.length∧iv = H k∧Hid (∃ gv gs vq,LG w wr gv gs vq (runS (cs.take k)))) (fun iv _=>cs.length - (intOf iv).toNat)
 case atStart=>exact ⟨0,Nat.zero_le _,rfl,_,_,_,U HL⟩
 case round =>
  obtain ⟨k,hk,rfl,uu⟩:=hrel
  obtain ⟨gv,gs,vq,hlg⟩:=U uu
  have HG:=Y hlg
  clear uu hlg
  by_cases xK:k < cs.length
  ·obtain ⟨c,vd⟩:∃ c,cs[k]? = some c:=⟨_,yH xK⟩
   obtain ⟨b,off,rfl,L,xo⟩:=U HC k c vd
   have qf:Hid (runS (cs.take (k + 1)) = rstep (runS (cs.take k)) c):=cB cs vd
   have uv:(k:Int) < cs.length:=by omega
   obtain ⟨pd,hi2,hi3,hi4⟩:=U HIV k hk
   have htge:=U qI c (yO vd)
   have HCM:=Y (zb xo (U HG).b L)
   have qr:b < wr.heap.size:=yJ L (U HG).b.size
   generalize runS (cs.take k) = s at qf pd hi2 hi3 hi4 HG
   obtain ⟨n,l,gl,t⟩:=s
   simp only [rstep] at qf
   simp only at pd hi2 hi3 hi4
   have oM:=pd.good.len
   obtain ⟨aq0,cq0,hv⟩:=zR (U HG).q
   simp only at hv
   subst hv
   have HGS:Hid (gs.length = k):=(U HG).gl.trans hi4
   clear hi4
   have oz:=Y (U HG).g
   obtain ⟨ga,gc,hgv⟩:=zR (U oz)
   subst hgv
   have HRO:Hid (RdR Od.vs 6 wr (.slice aq0 l.length cq0) l):=zK (U HG).q (by omega)
   have uI:=Y (fun (V:World) hV=>l04Step_any n (.slice aq0 l.length cq0) l c V hV (oRow_sl (U HG).q) pd.good pd.side (by omega) (by omega) htge)
   have HLN:=Y (stE_len (c:=c) (next:=n) pd.good)
   have HLL:=Y (stL_len (c:=c) (next:=n) pd.good)
   generalize stN n l c = h2 at qf uI
   generalize stL n l c = hb at qf uI HLL
   generalize stE n l c = eg at qf uI HLN
   unfold cmV at uI
   have jJ:=(U HG).z
   clear vd xo pd htge
   go_wp2_with fail
   refine zh (RG wr (fun f=>{ tmps:=#[.slice (some (J b off)) cs.length A,M,I w.heap.size 0,I (w.heap.size + 1) 0,H k,f 10,f 12,.agg #[H 1,.slice none 0 0],.agg #[.slice none 0 0,H 1,.slice none 0 0,H 0,H 0,H 0,H 0,H 0,H 0,H 0,H 0],H k,.slice (some (J b off)) cs.length A,H cs.length,.bool true,u13,u14,f 7,f 0,f 1,f 2,f 3,f 4,f 5,f 6,f 8,f 9,u25,u26,u27,u28,u29,u30,u31,u32,M,M,M,M,M,M,M],defers:=[] }) 11 (DP [I (w.heap.size + 1) 1,.agg #[H n,.slice aq0 l.length cq0],.slice (some (J b off)) cs.length A,H k,I b (off + k * 8),.agg (yw c.k c.s c.t c.l c.q c.i c.p c.g).toArray] [(6,2),(7,2),(8,3),(9,4),(10,5),(11,9),(12,4)] wr.heap.size n h2 l hb eg)) (by kernel_rfl) ?_ ?_ ?_
   ·exact ⟨fun j=>([u16,u17,u18,u19,u20,u21,u22,u15,u23,u24,u5,M,u6]:List Value)[j]?.getD M,rfl,⟨rfl,rfl,rfl,Nat.le_refl _,fun _ _=>rfl⟩,fun j R=>by rw [yI] at R; split at R <;> simp at R⟩
   rotate_left
   ·rintro x xm V i op ⟨f,rfl,xk,hD⟩ xo hx Z xy D
    have xv:=Y xk
    have HD:=Y hD
    match i,Z with
    | 0,Z =>
     obtain rfl:=ya Z
     clear D hD xk xo
     rw [if_pos (by rfl)];unfold Oper.wp;go_simp
     exact ⟨upd f 0 (I (w.heap.size + 1) 1),by simp [upd],zd (U xv) (U HD) (by decide) (dp_mkv rfl rfl)⟩
    | 1,Z =>
     obtain rfl:=ya Z
     have g0:f 0 = I (w.heap.size + 1) 1:=dp_val (hD 0 (ye D 0 rfl)) rfl rfl
     have y1:=zb (U HG).r xk (by omega) 1 _ rfl
     have y2:=zb (U HG).r xk (by omega) 2 _ rfl
     simp only [Nat.zero_add] at y1 y2
     clear D hD xk xo
     rw [if_pos (by rfl)];unfold Oper.wp;go_simp
     exact ⟨upd f 1 (.agg #[H n,.slice aq0 l.length cq0]),by simp [upd,g0],zd (U xv) (U HD) (by decide) (dp_mkv rfl rfl)⟩
    | 2,Z =>
     obtain rfl:=ya Z
     clear D hD xk xo
     rw [if_pos (by rfl)];unfold Oper.wp;go_simp
     exact ⟨upd f 2 (.slice (some (J b off)) cs.length A),by simp [upd],zd (U xv) (U HD) (by decide) (dp_mkv rfl rfl)⟩
    | 3,Z =>
     obtain rfl:=ya Z
     clear D hD xk xo
     rw [if_pos (by rfl)];unfold Oper.wp;go_simp
     exact ⟨upd f 3 (H k),by simp [upd],zd (U xv) (U HD) (by decide) (dp_mkv rfl rfl)⟩
    | 4,Z =>
     obtain rfl:=ya Z
     have g2:f 2 = .slice (some (J b off)) cs.length A:=dp_val (hD 2 (ye D 2 rfl)) rfl rfl
     have g3:f 3 = H k:=dp_val (hD 3 (ye D 3 rfl)) rfl rfl
     clear D hD xk xo
     rw [if_pos (by rfl)];unfold Oper.wp;go_simp
     exact ⟨upd f 4 (I b (off + k * 8)),by simp [upd,g2,g3],zd (U xv) (U HD) (by decide) (dp_mkv rfl rfl)⟩
    | 5,Z =>
     obtain rfl:=ya Z
     have g4:f 4 = I b (off + k * 8):=dp_val (hD 4 (ye D 4 rfl)) rfl rfl
     obtain ⟨q0,q1,q2,q3,q4,q5,q6,q7⟩:=cm_cells (zb (U HCM) xk qr)
     clear D hD xk xo
     rw [if_pos (by rfl)];unfold Oper.wp;go_simp
     exact ⟨upd f 5 (.agg (yw c.k c.s c.t c.l c.q c.i c.p c.g).toArray),by simp [upd,g4],zd (U xv) (U HD) (by decide) (dp_mkv rfl rfl)⟩
    | 6,Z =>
     obtain rfl:=ya Z
     have g1:f 1 = .agg #[H n,.slice aq0 l.length cq0]:=dp_val (hD 1 (ye D 1 rfl)) rfl rfl
     have g5:f 5 = .agg (yw c.k c.s c.t c.l c.q c.i c.p c.g).toArray:=dp_val (hD 5 (ye D 5 rfl)) rfl rfl
     have hS:=xk.size
     have HRV:=Y (zl (U HRO) xk tg)
     clear D hD xk xo
     rw [if_pos (by rfl)];unfold Oper.wp;go_simp
     refine (U uI V (U HRV)).mono ?_
     rintro e w4 ⟨vq,vg,rfl,ax,he4,xC⟩
     obtain ⟨aq,cq,rfl⟩:=zR ax
     obtain ⟨ag,cg,rfl⟩:=zR he4
     exact ⟨upd f 6 (.tuple #[.agg #[H h2,.slice aq hb.length cq],.slice ag eg.length cg]),by simp [upd,g1,g5],cS dp_grow (U xv) (U HD) xC (by decide) (dp_mk2 rfl ⟨aq,cq,ag,cg,rfl,zF ax hS,zF he4 hS⟩)⟩
    | 7,Z =>
     obtain rfl:=ya Z
     obtain ⟨aq,cq,ag,cg,g,N,h3⟩:=dp_2 (hD 6 (ye D 6 rfl)) rfl
     have H2:=Y N
     have H3:=Y h3
     clear N h3
     clear D hD xk xo
     rw [if_pos (by rfl)];unfold Oper.wp;go_simp
     exact ⟨upd f 7 (.tuple #[.agg #[H h2,.slice aq hb.length cq],.slice ag eg.length cg]),by simp [upd,g],zd (U xv) (U HD) (by decide) (dp_mk2 rfl ⟨aq,cq,ag,cg,rfl,U H2,U H3⟩)⟩
    | 8,Z =>
     obtain rfl:=ya Z
     obtain ⟨aq,cq,ag,cg,g,N,h3⟩:=dp_2 (hD 7 (ye D 7 rfl)) rfl
     have H2:=Y N
     have H3:=Y h3
     clear N h3
     clear D hD xk xo
     rw [if_pos (by rfl)];unfold Oper.wp;go_simp
     exact ⟨upd f 8 (.agg #[H h2,.slice aq hb.length cq]),by simp [upd,g],zd (U xv) (U HD) (by decide) (dp_mk3 rfl ⟨aq,cq,rfl,U H2⟩)⟩
    | 9,Z =>
     obtain rfl:=ya Z
     obtain ⟨aq,cq,ag,cg,g,N,h3⟩:=dp_2 (hD 7 (ye D 7 rfl)) rfl
     have H2:=Y N
     have H3:=Y h3
     clear N h3
     clear D hD xk xo
     rw [if_pos (by rfl)];unfold Oper.wp;go_simp
     exact ⟨upd f 9 (.slice ag eg.length cg),by simp [upd,g],zd (U xv) (U HD) (by decide) (dp_mk4 rfl ⟨ag,cg,rfl,U H3⟩)⟩
    | 10,Z =>
     obtain rfl:=ya Z
     have hp:¬ x[11]? = some true:=by rw [zw xo 12 10 11 (by kernel_rfl) hx (by simp) xy]; simp
     have hS:=xk.size
     clear D hD xk xo
     rw [if_pos (by rfl)];unfold Oper.wp;go_simp
     exact ⟨upd f 10 (I V.heap.size 0),by simp [upd],cS dp_grow (U xv) (U HD) (ed _ _) (by decide) (dp_mk5 rfl hp hS)⟩
    | 11,Z =>
     obtain rfl:=ya Z
     obtain ⟨aq,cq,g6,ho6⟩:=dp_3 (hD 8 (ye D 8 rfl)) rfl
     obtain ⟨b0,g9,hSb,hlt0,xG,qZ,-⟩:=dp_5 (hD 10 (ye D 10 rfl)) rfl
     have HSX:Hid (∀ j,j ≠ 11→x[j]? = some true→DP [I (w.heap.size + 1) 1,.agg #[H n,.slice aq0 l.length cq0],.slice (some (J b off)) cs.length A,H k,I b (off + k * 8),.agg (yw c.k c.s c.t c.l c.q c.i c.p c.g).toArray] [(6,2),(7,2),(8,3),(9,4),(10,5),(11,9),(12,4)] wr.heap.size n h2 l hb eg False V j (f j)→DP [I (w.heap.size + 1) 1,.agg #[H n,.slice aq0 l.length cq0],.slice (some (J b off)) cs.length A,H k,I b (off + k * 8),.agg (yw c.k c.s c.t c.l c.q c.i c.p c.g).toArray] [(6,2),(7,2),(8,3),(9,4),(10,5),(11,9),(12,4)] wr.heap.size n h2 l hb eg True (V.setCells b0 0 [H h2,.slice aq hb.length cq]) j (f j)):=fun j R hxj h=>dp_store hSb xG hlt0 qZ ho6 (fun hk=>by rw [look_only hk (i:=10) (by decide)]; exact g9) h
     have uj:=Y (zm b0 hSb [H h2,.slice aq hb.length cq] 0 _ xk)
     obtain ⟨p0,x0,f0⟩:=zc xG (j:=0) (by omega)
     obtain ⟨p1,x1,f1⟩:=zc xG (j:=1) (by omega)
     clear D hD xk xo xG qZ ho6
     rw [if_pos (by rfl)];unfold Oper.wp;go_simp
     exact ⟨f,by simp [g6,g9],rg_write2 (U uj) (U HD) xy (U HSX) (dp_mk9 rfl)⟩
    | 12,Z =>
     obtain rfl:=ya Z
     obtain ⟨ag,cg,g,h3⟩:=dp_4 (hD 9 (ye D 9 rfl)) rfl
     have H3:=Y h3
     clear h3
     clear D hD xk xo
     rw [if_pos (by rfl)];unfold Oper.wp;go_simp
     exact ⟨upd f 12 (.slice ag eg.length cg),by simp [upd,g],zd (U xv) (U HD) (by decide) (dp_mk4 rfl ⟨ag,cg,rfl,U H3⟩)⟩
    | n + 13,Z=>simp at Z
   ·rintro x xm V ⟨f,rfl,xk,hD⟩ hx xP
    have xp:=zP xP hx (by kernel_rfl)
    obtain ⟨ag,cg,e12,hge⟩:=dp_4 (hD 12 (xp 12 (by simp))) rfl
    obtain ⟨bb,oD,hSb,hltb,-,hbxb,vv⟩:=dp_5 (hD 10 (xp 10 (by simp))) rfl
    obtain ⟨aq,cq,hra,hro⟩:=vv (xp 11 (by simp))
    simp only [e12,oD]
    have jS:=Y (lg_below (U HG) xk)
    have HOV:=Y (zF hro jJ)
    have vJ:=Y (zF hge jJ)
    have x0:V.cell? (J bb 0) = some (H h2):=hra 0 _ rfl
    have x1:V.cell? (J bb 1) = some (.slice aq hb.length cq):=hra 1 _ rfl
    obtain ⟨y1,z1,q1⟩:=zc (U jS).t (j:=1) (by omega)
    obtain ⟨y2,z2,q2⟩:=zc (U jS).t (j:=2) (by omega)
    have m0:V.cell? (J (w.heap.size + 1) 0) = some (.slice ga gs.length gc):=(U jS).r 0 _ rfl
    clear e12 hge oD hltb hbxb vv hra hro hD xp xP hx xk
    generalize f 0 = v0,f 1 = v1,f 2 = v2,f 3 = v3,f 4 = v4,f 5 = v5,f 6 = v6,f 7 = v7,f 8 = v8,f 9 = v9
    rename_i KA haA
    refine haA _ _ ?_
    clear haA KA
    refine ei fun K2 kg=>?_
    go_wp2_with fail
    refine U kg _ _ ?_
    clear kg x0 x1 z1 q1 z2 q2 m0
    have HLB:=Y (lg_book (U jS) h2 hb (U HOV))
    have jp:=Y (zr (zr (U vJ) (zj (U vJ) (U jS).bx (by decide)) 1 (H h2)) (zj (U vJ) (U jS).bx (by decide)) 2 (.slice aq hb.length cq))
    clear jS vJ HOV
    generalize (V.setCell (J (w.heap.size + 1) 1) (H h2)).setCell (J (w.heap.size + 1) 2) (.slice aq hb.length cq) = V1 at HLB jp ⊢
    have m0:V1.cell? (J (w.heap.size + 1) 0) = some (.slice ga gs.length gc):=(U HLB).r 0 _ rfl
    refine wp_region_lit ?_
    refine wpList_step fun K3 vT=>?_
    have vA:=Y vT
    clear vT
    rw [if_pos (by rfl)];unfold Oper.wp;go_simp
    refine U vA _ _ ?_
    clear vA
    refine wpList_step fun K3 vT=>?_
    have vA:=Y vT
    clear vT
    rw [if_pos (by rfl)];unfold Oper.wp;go_simp
    refine U vA _ _ ?_
    clear vA
    refine wpList_step fun K3 vT=>?_
    have vA:=Y vT
    clear vT
    rw [if_pos (by rfl)];unfold Oper.wp;go_simp
    refine U vA _ _ ?_
    clear vA
    refine wpList_step fun K3 vT=>?_
    have vA:=Y vT
    clear vT
    rw [if_pos (by rfl)];unfold Oper.wp;go_simp
    refine U vA _ _ ?_
    clear vA
    have bA:=ed V1 (E #[.slice ag eg.length cg] 39)
    have jQ:=Y (lg_below (U HLB) bA)
    have HEC:=Y (zG (U jp) bA)
    have om:(V1.alloc (E #[.slice ag eg.length cg] 39)).cell? (J V1.heap.size 0) = some (.slice ag eg.length cg):=zg V1 [.slice ag eg.length cg] 39 0 _ rfl
    generalize V1.alloc (E #[.slice ag eg.length cg] 39) = V2 at jQ HEC om ⊢
    generalize V1.heap.size = vs at om ⊢
    clear bA HLB jp m0
    refine wpList_step fun K3 vT=>?_
    have vA:=Y vT
    clear vT
    rw [if_pos (by rfl)]
    refine wp_append_own V2 (.tmp 28) (.tmp 30) 28 rfl (w.heap.size + 1 + 1) 39 i0 _ 1 24 Tryz.underlying28 uE uA uC uM rfl (by decide) (.slice ga gs.length gc) gs.length gs rfl (U jQ).g (J vs 0) 1 1 [.slice ag eg.length cg] rfl rfl (fun j u hu=>by match j,hu with | 0,hu=>cases hu; rw [Addr.add_mid]; exact om | j + 1,hu=>simp at hu) (by intro u hu; simp at hu; subst hu; rfl) (by have:=U HGS; unfold maxLen; omega) (by have:=U HGS; omega) (by have:=(U jQ).z; omega) ?_
    intro v' w' xL ub _
    have jC:Hid (GRow w' (w.heap.size + 1 + 1) v' (gs ++ [Value.slice ag eg.length cg])):=by show w'.ownsRow _ _ _ _ (gs ++ [Value.slice ag eg.length cg]).length _; rw [yP]; exact xL
    obtain ⟨ga',gc',hv'⟩:=zR (U jC)
    subst hv'
    have HLD:=Y (lg_group (U jQ) (U HEC) (U jC) ub)
    obtain ⟨y0,z0,q0⟩:=zc (zZ (U jQ).t ub (by have:=(U jQ).z; omega) (zj (U jQ).g (U jQ).bx (by decide))) (j:=0) (by omega)
    clear xL ub jQ HEC om
    refine U vA _ _ ?_
    clear vA
    refine wpList_step fun K3 vT=>?_
    have vA:=Y vT
    clear vT
    rw [if_pos (by rfl)];unfold Oper.wp;go_simp
    refine U vA _ _ ?_
    clear vA
    refine wpList_step fun K3 vT=>?_
    have vA:=Y vT
    clear vT
    rw [if_pos (by rfl)];unfold Oper.wp;go_simp
    refine U vA _ _ ?_
    clear vA
    have elen:(gs ++ [Value.slice ag eg.length cg]).length = gs.length + 1:=by simp
    rw [elen] at HLD
    clear elen
    generalize w'.setCell (J (w.heap.size + 1) 0) (.slice ga' (gs.length + 1) gc') = V3 at HLD ⊢
    clear z0 q0
    refine wpList_nil ?_
    go_wp2_with fail
    go_roundw
    case rel=>exact ⟨k + 1,by omega,by go_num,_,_,_,by rw [U qf]; exact lg_tot _ (U HLD)⟩
    case measure=>simp [intOf]; omega
  ·have uv:¬ (k:Int) < cs.length:=by omega
   rw [yZ (by omega)] at HG
   have HFW:=Y (run_few cs jt cs.length tg)
   have HRI:=Y (run_inv cs jt)
   rw [yZ tg] at HFW
   go_wp2_with fail
   refine U xu _ _ ?_
   clear xu xK uv
   generalize runS cs = s at HG HF HFW HRI
   obtain ⟨n,l,gl,t⟩:=s
   simp only at HF HFW HRI
   obtain ⟨aq,cq,hv⟩:=zR (U HG).q
   simp only at hv
   subst hv
   obtain ⟨ga,gc,hgv⟩:=zR (U HG).g
   subst hgv
   have kX:gs.length = gl.length:=(U HG).gl
   have HGD:=Y (grs_rd (U HG).g kX (U HG).ge (by have:=(U HRI).2.2.2; omega) (fun es vi=>yN (U HFW es vi) (by omega)))
   have HOD:Hid (RdR Od.vs 6 wr (.slice aq l.length cq) l):=zK (U HG).q (by have:=(U HRI).1.good.len; omega)
   have HGL:=Y kX
   clear kX
   have HTO:=Y (l04Totals_any _ gl n _ l wr (U HGD) (U HOD))
   generalize totM gl l = T at HTO HF
   obtain ⟨ue,ud,ug,uh,ui,uf,ut,ur⟩:=T
   simp only at HTO
   have m0:wr.cell? (J (w.heap.size + 1) 0) = some (.slice ga gs.length gc):=(U HG).r 0 _ rfl
   have m1:wr.cell? (J (w.heap.size + 1) 1) = some (H n):=(U HG).r 1 _ rfl
   have m2:wr.cell? (J (w.heap.size + 1) 2) = some (.slice aq l.length cq):=(U HG).r 2 _ rfl
   refine ei fun hR xu=>?_
   go_wp2_with fail
   refine (U HTO).mono ?_
   rintro e V2 ⟨rfl,xZ⟩
   clear m0 m1 m2
   have uL:=Y (lg_below (U HG) xZ)
   clear xZ
   have uM:=(U uL).z
   obtain ⟨y3,z3,q3⟩:=zc (U uL).t (j:=3) (by omega)
   obtain ⟨y4,z4,q4⟩:=zc (U uL).t (j:=4) (by omega)
   obtain ⟨y5,z5,q5⟩:=zc (U uL).t (j:=5) (by omega)
   obtain ⟨y6,z6,q6⟩:=zc (U uL).t (j:=6) (by omega)
   obtain ⟨y7,z7,q7⟩:=zc (U uL).t (j:=7) (by omega)
   obtain ⟨y8,z8,q8⟩:=zc (U uL).t (j:=8) (by omega)
   obtain ⟨y9,z9,q9⟩:=zc (U uL).t (j:=9) (by omega)
   obtain ⟨y10,z10,q10⟩:=zc (U uL).t (j:=10) (by omega)
   go_wp2_with fail
   refine U xu _ _ ?_
   clear xu z3 q3 z4 q4 z5 q5 z6 q6 z7 q7 z8 q8 z9 q9 z10 q10
   change Code.wp _ _ _ _ (V2.setCells (w.heap.size + 1) 3 (Tot.mk ue ud ug uh ui uf ut ur).vs)
   have jF:Hid (V2.there (w.heap.size + 1) 3 8):=fun j R=>by
    have:=(U uL).t (3 + j) (by omega)
    rwa [Nat.zero_add] at this
   have jb:=Y (yX V2 (w.heap.size + 1) 3 (Tot.mk ue ud ug uh ui uf ut ur).vs (fun j R=>U jF j (by simpa [Tot.vs] using R)))
   have HC0:Hid (∀ j u,j < 3→V2.cell? (J (w.heap.size + 1) j) = some u→(V2.setCells (w.heap.size + 1) 3 (Tot.mk ue ud ug uh ui uf ut ur).vs).cell? (J (w.heap.size + 1) j) = some u):=fun j u R hu=>(World.cell?_setCells_out (w.heap.size + 1) _ 3 V2 (J (w.heap.size + 1) j) (fun _ _=>.inl R)).trans hu
   have qw:Hid (World.there (V2.setCells (w.heap.size + 1) 3 (Tot.mk ue ud ug uh ui uf ut ur).vs) w.heap.size 0 11):=there_blk (U uL).o (cU (w.heap.size + 1) w.heap.size (by omega) _ 3 V2)
   have xv:=Y (zm (w.heap.size + 1) (by omega) (Tot.mk ue ud ug uh ui uf ut ur).vs 3 V2 (U uL).b)
   have vL:Hid (∀ {e sz m:Nat} {v:Value} {xs:List Value},V2.ownsRow (w.heap.size + 1 + 1) e sz v m xs→35 ≠ e→World.ownsRow ((V2.setCells (w.heap.size + 1) 3 (Tot.mk ue ud ug uh ui uf ut ur).vs).setCells w.heap.size 0 [.slice ga gs.length gc,H n,.slice aq l.length cq,H ue,H ud,H ug,H uh,H ui,H uf,H ut,H ur]) w.heap.size e sz v m xs):=fun {e sz m v xs} h hne'=>row_end h (zj h (U uL).bx hne') (Below.refl _ _) (by omega) (by omega) _ _ _ _
   generalize V2.setCells (w.heap.size + 1) 3 (Tot.mk ue ud ug uh ui uf ut ur).vs = V at jb HC0 qw xv vL ⊢
   have m0:=U HC0 0 _ (by omega) ((U uL).r 0 _ rfl)
   have m1:=U HC0 1 _ (by omega) ((U uL).r 1 _ rfl)
   have m2:=U HC0 2 _ (by omega) ((U uL).r 2 _ rfl)
   simp only at m1
   have m3:V.cell? (J (w.heap.size + 1) 3) = some (H ue):=U jb 0 _ rfl
   have m4:V.cell? (J (w.heap.size + 1) 4) = some (H ud):=U jb 1 _ rfl
   have m5:V.cell? (J (w.heap.size + 1) 5) = some (H ug):=U jb 2 _ rfl
   have m6:V.cell? (J (w.heap.size + 1) 6) = some (H uh):=U jb 3 _ rfl
   have m7:V.cell? (J (w.heap.size + 1) 7) = some (H ui):=U jb 4 _ rfl
   have m8:V.cell? (J (w.heap.size + 1) 8) = some (H uf):=U jb 5 _ rfl
   have m9:V.cell? (J (w.heap.size + 1) 9) = some (H ut):=U jb 6 _ rfl
   have m10:V.cell? (J (w.heap.size + 1) 10) = some (H ur):=U jb 7 _ rfl
   obtain ⟨y0,z0,q0⟩:=zc (U qw) (j:=0) (by omega)
   obtain ⟨y1,z1,q1⟩:=zc (U qw) (j:=1) (by omega)
   obtain ⟨y2,z2,q2⟩:=zc (U qw) (j:=2) (by omega)
   obtain ⟨y3,z3,q3⟩:=zc (U qw) (j:=3) (by omega)
   obtain ⟨y4,z4,q4⟩:=zc (U qw) (j:=4) (by omega)
   obtain ⟨y5,z5,q5⟩:=zc (U qw) (j:=5) (by omega)
   obtain ⟨y6,z6,q6⟩:=zc (U qw) (j:=6) (by omega)
   obtain ⟨y7,z7,q7⟩:=zc (U qw) (j:=7) (by omega)
   obtain ⟨y8,z8,q8⟩:=zc (U qw) (j:=8) (by omega)
   obtain ⟨y9,z9,q9⟩:=zc (U qw) (j:=9) (by omega)
   obtain ⟨y10,z10,q10⟩:=zc (U qw) (j:=10) (by omega)
   have xQ:=Y (yX V w.heap.size 0 [.slice ga gs.length gc,H n,.slice aq l.length cq,H ue,H ud,H ug,H uh,H ui,H uf,H ut,H ur] (fun j R=>U qw j R))
   have vQ:=Y (zm w.heap.size tg [.slice ga gs.length gc,H n,.slice aq l.length cq,H ue,H ud,H ug,H uh,H ui,H uf,H ut,H ur] 0 V (U xv))
   have HGG:Hid (GRs (V.setCells w.heap.size 0 [.slice ga gs.length gc,H n,.slice aq l.length cq,H ue,H ud,H ug,H uh,H ui,H uf,H ut,H ur]) w.heap.size (.slice ga gs.length gc) gl):=⟨gs,U vL (U uL).g (by decide),U HGL,fun i g es hg vi=>U vL ((U uL).ge i g es hg vi) (by decide)⟩
   have HO:Hid (ORow (V.setCells w.heap.size 0 [.slice ga gs.length gc,H n,.slice aq l.length cq,H ue,H ud,H ug,H uh,H ui,H uf,H ut,H ur]) w.heap.size (.slice aq l.length cq) l):=U vL (U uL).q (by decide)
   clear vL
   go_wp2_with fail
   change bodyPost _ _ _ _ _ (V.setCells w.heap.size 0 [.slice ga gs.length gc,H n,.slice aq l.length cq,H ue,H ud,H ug,H uh,H ui,H uf,H ut,H ur])
   generalize V.setCells w.heap.size 0 [.slice ga gs.length gc,H n,.slice aq l.length cq,H ue,H ud,H ug,H uh,H ui,H uf,H ut,H ur] = WE at xQ vQ HGG HO ⊢
   obtain rfl:=U HF
   have d0:WE.cell? (J w.heap.size 0) = some (.slice ga gs.length gc):=U xQ 0 _ rfl
   have d1:WE.cell? (J w.heap.size 1) = some (H n):=U xQ 1 _ rfl
   have d2:WE.cell? (J w.heap.size 2) = some (.slice aq l.length cq):=U xQ 2 _ rfl
   have d3:WE.cell? (J w.heap.size 3) = some (H ue):=U xQ 3 _ rfl
   have d4:WE.cell? (J w.heap.size 4) = some (H ud):=U xQ 4 _ rfl
   have d5:WE.cell? (J w.heap.size 5) = some (H ug):=U xQ 5 _ rfl
   have d6:WE.cell? (J w.heap.size 6) = some (H uh):=U xQ 6 _ rfl
   have d7:WE.cell? (J w.heap.size 7) = some (H ui):=U xQ 7 _ rfl
   have d8:WE.cell? (J w.heap.size 8) = some (H uf):=U xQ 8 _ rfl
   have d9:WE.cell? (J w.heap.size 9) = some (H ut):=U xQ 9 _ rfl
   have d10:WE.cell? (J w.heap.size 10) = some (H ur):=U xQ 10 _ rfl
   refine bodyPost_ret (by simp [results,Tryz.results16,go_sem,d0,d1,d2,d3,d4,d5,d6,d7,d8,d9,d10]; try rfl) rfl ?_
   exact ⟨_,_,rfl,U HGG,U HO,U vQ⟩
end Go.Proofs.YtdliebbfcmdmaaaGreat
