/-
  Trades in their order: each is with the order that is first at that moment. No function walked.
-/
import Derived.Test.YtbakanofkghmiaaGreatPj34
set_option linter.unusedVariables false
set_option maxHeartbeats 6400000
set_option maxRecDepth 100000
namespace Go.Proofs.YtbakanofkghmiaaGreat
open Go.RowKit
def LimOk (c:Cm) (pr:Int):Prop:=tkOk c.p = true→(c.s = 1→pr ≤ tk c.p)∧(c.s = 2→tk c.p ≤ pr)
def Pri (c:Cm):List Ev→List Od→Prop
 | [],_=>True
 | e :: es,l=>(e.kind ≠ 3∧Pri c es l) ∨ (e.kind = 3∧∃ o k,aD l (othS c.s) = some o∧l[k]? = some o∧o.id = e.other∧o.ticks = e.price∧1 ≤ e.qty∧e.qty ≤ o.left∧(c.s = 1 ∨ c.s = 2)∧LimOk c e.price∧Pri c es (zR l k o e.qty))
theorem ch {c:Cm}:∀ {es:List Ev} {l:List Od},(∀ e ∈ es,e.kind ≠ 3)→Pri c es l
 | [],_,_=>trivial
 | e :: es,l,h=>.inl ⟨h e (by simp),ch fun x hx=>h x (by simp [hx])⟩
theorem lim_meet {c:Cm} {o:Od} (hp:prcB c = true) (hm:aI c o = true):LimOk c o.ticks:=by
 intro hk
 rw [aI] at hm
 by_cases K:c.t = 2
 ·exfalso
  rw [prcB,if_pos K] at hp
  have h0:fbit c.p = 0:=by simpa using hp
  have hz:c.p = 0:=by
   rw [fbit] at h0
   split at h0
   ·cases h0
   ·exact h0
  rw [hz] at hk
  exact absurd hk (by decide +kernel)
 ·rw [if_neg K] at hm
  by_cases hs:c.s = 1
  ·rw [if_pos hs] at hm
   exact ⟨fun _=>by simpa using hm,fun h=>by omega⟩
  ·rw [if_neg hs] at hm
   exact ⟨fun h=>absurd h hs,fun _=>by simpa using hm⟩
theorem pri_mat {c:Cm} {id:Int} (hp:prcB c = true) (hs:c.s = 1 ∨ c.s = 2):∀ (n:Nat) (l:List Od) (left:Int) (ts:List Ev),GoodL l→0 ≤ left→left ≤ 1000000→∃ us,(matL c id n l left ts).2.2 = ts ++ us∧∀ tl,(∀ e ∈ tl,e.kind ≠ 3)→Pri c (us ++ tl) l
 | 0,l,left,ts,h,h0,z=>⟨[],by simp [matL],fun tl ht=>ch ht⟩
 | n + 1,l,left,ts,h,h0,z=>by
  rw [matL]
  by_cases hl:0 < left
  ·rw [if_pos hl]
   cases hf:aD l (othS c.s) with
   | none=>exact ⟨[],by simp,fun tl ht=>ch ht⟩
   | some o =>
    simp only
    by_cases hm:aI c o = true
    ·rw [if_pos hm]
     obtain ⟨vi,_⟩:=cX hf
     obtain ⟨k,hk⟩:=List.getElem?_of_mem vi
     have Y:=h.left o vi
     rw [plc_at h.rise hk,Int.toNat_natCast]
     obtain ⟨us,e1,e2⟩:=pri_mat hp hs (id:=id) n (zR l k o (min left o.left)) (left - min left o.left) (ts ++ [trE id o.id (min left o.left) o.ticks]) (dd h hk (by omega) (by omega)).1 (by omega) (by omega)
     refine ⟨trE id o.id (min left o.left) o.ticks :: us,by rw [e1]; simp,fun tl ht=>.inr ⟨rfl,o,k,hf,hk,rfl,rfl,?_,?_,hs,lim_meet hp hm,e2 tl ht⟩⟩
     ·show 1 ≤ min left o.left; omega
     ·show min left o.left ≤ o.left; omega
    ·rw [if_neg hm]; exact ⟨[],by simp,fun tl ht=>ch ht⟩
  ·rw [if_neg hl]; exact ⟨[],by simp,fun tl ht=>ch ht⟩
theorem pri_all {n:Int} {l:List Od} {c:Cm} (h:OkB n l):Pri c ((stE n l c).drop 1) l:=by
 rw [stE]
 by_cases h0:refR n l c = 0
 ·rw [if_pos h0]
  by_cases hk:c.k = 1
  ·rw [if_pos hk]
   rw [refR,if_pos hk] at h0
   split at h0
   ·rw [newR] at h0
    have e:betB c.s 1 2 = true∧prcB c = true∧betB c.q 1 1000000 = true:=by
     revert h0
     cases z:betB c.s 1 2
     ·intro h; cases h
     cases K:betB c.t 1 5
     ·intro h; cases h
     cases h3:lifW c
     ·cases h4:prcB c
      ·intro h; cases h
      cases h5:betB c.q 1 1000000
      ·intro h; cases h
      exact fun _=>⟨rfl,rfl,rfl⟩
     ·intro h; cases h
    obtain ⟨z,h4,h5⟩:=e
    have hq:1 ≤ c.q∧c.q ≤ 1000000:=by simpa [betB] using h5
    have hs:c.s = 1 ∨ c.s = 2:=by simp [betB] at z; omega
    obtain ⟨us,e1,e2⟩:=pri_mat (c:=c) (id:=n) h4 hs 21 l c.q [] (dv h) (by omega) hq.2
    rw [accE,List.cons_append,yR,List.drop_zero,e1,List.nil_append]
    refine e2 _ (fun e he=>?_)
    split at he
    ·rw [List.mem_singleton.1 he]
     show (if ay c.t = true then (4:Int) else 5) ≠ 3
     split <;> decide
    ·cases he
   ·cases h0
  ·rw [if_neg hk]
   split
   ·split
    ·exact ch (by simp)
    ·exact ch (by simp)
   ·split
    ·exact ch (by simp)
    ·refine ch (fun e he=>?_)
     simp only [yR,List.drop_zero] at he
     obtain ⟨o,_,rfl⟩:=List.mem_map.1 he
     exact (show (9:Int) ≠ 3 by decide)
 ·rw [if_neg h0]; exact ch (by simp)
def hitF (l:List Od) (ot q:Int):List Od:=(l.map fun o=>if o.id = ot then { o with left:=o.left - q } else o).filter fun o=>decide (0 < o.left)
theorem hitF_same {l:List Od} {ot q:Int} (h:∀ o ∈ l,o.id ≠ ot) (hl:∀ o ∈ l,0 < o.left):hitF l ot q = l:=by
 have:(l.map fun o=>if o.id = ot then { o with left:=o.left - q } else o) = l:=by
  have e:(l.map fun o=>if o.id = ot then { o with left:=o.left - q } else o) = l.map id:=List.map_congr_left fun o Y=>by rw [if_neg (h o Y)]; rfl
  rw [e,List.map_id]
 rw [hitF,this]
 exact List.filter_eq_self.2 fun o Y=>by simpa using hl o Y
theorem hitF_app (a b:List Od) (ot q:Int):hitF (a ++ b) ot q = hitF a ot q ++ hitF b ot q:=by
 rw [hitF,List.map_append,List.filter_append]; rfl
theorem hitF_at {l:List Od} (h:GoodL l) {k:Nat} {o:Od} (hk:l[k]? = some o) {q:Int} (h0:1 ≤ q) (z:q ≤ o.left):hitF l o.id q = zR l k o q:=by
 have xL:=(yD.1 hk).1
 have hsp:l = l.take k ++ o :: l.drop (k + 1):=by
  have e:=List.take_append_drop k l
  rw [yZ xL,(yD.1 hk).2] at e
  exact e.symm
 have hr:=h.rise
 rw [aH,hsp] at hr
 obtain ⟨r1,r2,r3⟩:=List.pairwise_append.1 hr
 obtain ⟨r4,r5⟩:=List.pairwise_cons.1 r2
 have a1:hitF (l.take k) o.id q = l.take k:=hitF_same (fun x hx=>by have:=r3 x hx o (by simp); omega) (fun x hx=>(h.left x (List.mem_of_mem_take hx)).1)
 have a2:hitF (l.drop (k + 1)) o.id q = l.drop (k + 1):=hitF_same (fun x hx=>by have:=r4 x hx; omega) (fun x hx=>(h.left x (List.mem_of_mem_drop hx)).1)
 have a3:hitF [o] o.id q = if o.left = q then [] else [{ o with left:=o.left - q }]:=by
  simp only [hitF,List.map_cons,List.map_nil,if_true]
  split
  ·next e=>rw [List.filter_cons_of_neg (by simp; omega)]; rfl
  ·next e=>rw [List.filter_cons_of_pos (by simp; omega)]; rfl
 have e1:hitF l o.id q = l.take k ++ ((if o.left = q then [] else [{ o with left:=o.left - q }]) ++ l.drop (k + 1)):=by
  have e0:hitF l o.id q = hitF (l.take k ++ o :: l.drop (k + 1)) o.id q:=congrArg (fun x=>hitF x o.id q) hsp
  rw [e0,hitF_app,show o :: l.drop (k + 1) = [o] ++ l.drop (k + 1) from rfl,hitF_app,a1,a2,a3]
 rw [e1,zR]
 split
 ·rfl
 ·rw [List.set_eq_take_append_cons_drop,if_pos xL]; rfl
theorem box4 (w:World) (a b c d:List Value) (Ta Tb Tc Td:TypeId) :
  Bx ((((w.alloc (Obj.cells a.toArray Ta)).alloc (Obj.cells b.toArray Tb)).alloc (Obj.cells c.toArray Tc)).alloc (Obj.cells d.toArray Td)) w.heap.size a∧Bx ((((w.alloc (Obj.cells a.toArray Ta)).alloc (Obj.cells b.toArray Tb)).alloc (Obj.cells c.toArray Tc)).alloc (Obj.cells d.toArray Td)) (w.heap.size + 1) b∧Bx ((((w.alloc (Obj.cells a.toArray Ta)).alloc (Obj.cells b.toArray Tb)).alloc (Obj.cells c.toArray Tc)).alloc (Obj.cells d.toArray Td)) (w.heap.size + 2) c∧Bx ((((w.alloc (Obj.cells a.toArray Ta)).alloc (Obj.cells b.toArray Tb)).alloc (Obj.cells c.toArray Tc)).alloc (Obj.cells d.toArray Td)) (w.heap.size + 3) d∧((((w.alloc (Obj.cells a.toArray Ta)).alloc (Obj.cells b.toArray Tb)).alloc (Obj.cells c.toArray Tc)).alloc (Obj.cells d.toArray Td)).heap.size = w.heap.size + 4∧yl w ((((w.alloc (Obj.cells a.toArray Ta)).alloc (Obj.cells b.toArray Tb)).alloc (Obj.cells c.toArray Tc)).alloc (Obj.cells d.toArray Td)):=by
 have s1:=ze w (Obj.cells a.toArray Ta)
 have x1:=aT w a Ta
 have z:=eD w (Obj.cells a.toArray Ta)
 generalize w.alloc (Obj.cells a.toArray Ta) = W1 at s1 x1 z ⊢
 have s2:=ze W1 (Obj.cells b.toArray Tb)
 have x2:=aT W1 b Tb
 have K:=eD W1 (Obj.cells b.toArray Tb)
 generalize W1.alloc (Obj.cells b.toArray Tb) = W2 at s2 x2 K ⊢
 have s3:=ze W2 (Obj.cells c.toArray Tc)
 have x3:=aT W2 c Tc
 have h3:=eD W2 (Obj.cells c.toArray Tc)
 generalize W2.alloc (Obj.cells c.toArray Tc) = W3 at s3 x3 h3 ⊢
 have s4:=ze W3 (Obj.cells d.toArray Td)
 have x4:=aT W3 d Td
 have h4:=eD W3 (Obj.cells d.toArray Td)
 generalize W3.alloc (Obj.cells d.toArray Td) = W4 at s4 x4 h4 ⊢
 rw [s3,s2,s1] at x4 s4
 rw [s2,s1] at x3 s3
 rw [s1] at x2 s2
 exact ⟨zG (zG (zG x1 K (by omega)) h3 (by omega)) h4 (by omega),zG (zG x2 h3 (by omega)) h4 (by omega),zG x3 h4 (by omega),x4,s4,z.trans ((K.trans ((eG h3 h4).mono K.size)).mono z.size)⟩
theorem cellsH {W:World} {s:Nat} (hs:W.heap.size = s) (cs:List Value) (t:TypeId) (j:Nat) (u:Value) (h:cs[j]? = some u):(W.alloc (Obj.cells cs.toArray t)).cell? (((J s 0):Addr).add j) = some u:=by
 subst hs; exact bQ W cs t j u h
structure HiS (B:Nat) (n:Int) (vq:Value) (hj:List Od) (W4 W:World):Prop where
 bx:Bx W B [.int .i64 n,vq]
 row:ORow W (B + 1) vq hj
 bl:Below B W4 W
theorem hiS_lt {B:Nat} {n:Int} {vq:Value} {hj:List Od} {W4 W:World} (h:HiS B n vq hj W4 W):B < W.heap.size:=yH W _ (zq h.bx 0 rfl)
theorem hiS_grow {B:Nat} {n:Int} {vq:Value} {hj:List Od} {W4 W W':World} (h:HiS B n vq hj W4 W) (hb:yl W W'):HiS B n vq hj W4 W' :=
 ⟨zG h.bx hb (hiS_lt h),zj h.row hb,h.bl.trans (hb.mono (Nat.le_of_lt (hiS_lt h)))⟩
theorem hiS_push {B:Nat} {n:Int} {vq uV:Value} {hj:List Od} {o:Od} {W4 W W':World} {ob:Obj} (h:HiS B n vq hj W4 W) (xN:W'.ownsRow (B + 1) 49 6 uV (hj.length + 1) (hj.flatMap Od.vs ++ o.vs)) (hg:(W.alloc ob).grownBy W' vq.ownBlock) :
  Bx W' B [H n,vq]∧HiS B n uV (hj ++ [o]) W4 (W'.setCell (J B 1) uV):=by
 have xL:=hiS_lt h
 have qj:W.grownBy W' vq.ownBlock:=(World.grownBy_alloc W ob _).trans hg
 have xA:some B ≠ vq.ownBlock:=fun e=>by have:=(h.row.lt B e.symm).1; omega
 have vF:Bx W' B [H n,vq]:=⟨zm h.bx.r qj xL xA,bC h.bx.t qj xL xA⟩
 have uD:ORow W' (B + 1) uV (hj ++ [o]):=by
  show W'.ownsRow _ _ _ _ (hj ++ [o]).length _
  rw [yM,List.flatMap_append]; simpa using xN
 have hne':uV.ownBlock ≠ some B:=fun e=>by have:=(uD.lt B e).1; omega
 refine ⟨vF,⟨⟨?_,yY (vs:=[uV]) vF.t B 1⟩,World.ownsRow.kept uD (gr_set W' (J B 1) uV) (.inr hne'),?_⟩⟩
 ·have:=dV (v:=uV) vF.r (j0:=1) (by show 1 < 2; omega)
  exact this
 ·have z:=(h.bl.alloc (Nat.le_of_lt xL) ob).grown hg (by rw [ze]; omega) (fun k hk=>by have:=(h.row.lt k hk).1; omega)
  exact zu B tg [uV] 1 W' z
theorem hit_any (n:Int) (v:Value) (l:List Od) (e:Ev) (w:World) (hr:RdR Od.vs 6 w v l) (hl:l.length ≤ 20) (hb:∀ o ∈ l,0 < o.left∧o.left ≤ 1000000) (hq:0 ≤ e.qty∧e.qty ≤ 1000000) :
  Calls Tryz.prog 20 #[.agg #[H n,v],evV e] w fun x w'=>∃ vq,x = yk (.agg #[H n,vq])∧ORow w' w.heap.size vq (hitF l e.other e.qty)∧yl w w':=by
 obtain ⟨ui,⟨ck,cs,ct,cl,cq,ci,cp,cg⟩,id,xw,qty,xO,xF⟩:=e
 unfold evV
 simp only at hq ⊢
 have HR:=Q hr
 have HB:=Q hb
 obtain ⟨a,F,rfl,-,hc⟩:=hr
 have HC:Hid (∀ (k:Nat) (o:Od),l[k]? = some o→∃ b off,a = some (J b off)∧b < w.heap.size∧w.rangeAt b (off + k * 6) o.vs):=fun k o hk=>by
  obtain ⟨b,off,z,K,h3⟩:=hc (by intro h; rw [h] at hk; simp at hk)
  exact ⟨b,off,z,K,h3 k o hk⟩
 clear hc hb
 have HX:=Q (box4 w [H n,.slice a l.length F] (ys ui ck cs ct cl cq ci cp cg id xw qty xO xF) [H 0,.slice none 0 0] [H n,.slice none 0 0] 28 46 28 28)
 go_enter Tryz.func20,Tryz.ntmps20
 go_wp2_with fail
 generalize ((((w.alloc (E #[H n,.slice a l.length F] 28)).alloc (E (ys ui ck cs ct cl cq ci cp cg id xw qty xO xF).toArray 46)).alloc (E #[H 0,.slice none 0 0] 28)).alloc (E #[H n,.slice none 0 0] 28)) = W4 at HX ⊢
 obtain ⟨i0,hi,uq,uw,uM⟩:=info_parts Tryz.infoOrder
 have HS4:Hid (W4.heap.size = w.heap.size + 4):=(M HX).2.2.2.2.1
 generalize hB2:w.heap.size + 1 + 1 = B2
 generalize hB3:B2 + 1 = B
 have oL:w.heap.size + 3 ≤ B∧B ≤ w.heap.size + 3:=by omega
 have hBv:w.heap.size + 2 ≤ B2∧B2 ≤ w.heap.size + 2:=by omega
 clear hB2 hB3
 have HS0:Hid (HiS B n (.slice none 0 0) [] W4 W4):=by rw [show B = w.heap.size + 3 by omega]; exact ⟨(M HX).2.2.2.1,World.ownsRow_nil _ _ _ _,Below.refl _ _⟩
 go_loopw [6] (fun iv wr=>∃ (k:Nat) (vq:Value),k ≤ l.length∧iv = H k∧Hid (HiS B n vq (hitF (l.take k) xw qty) W4 wr)) (fun iv _=>l.length - (intOf iv).toNat)
 case atStart=>exact ⟨0,.slice none 0 0,Nat.zero_le _,rfl,M HS0⟩
 case round =>
  obtain ⟨k,vq,hk,rfl,kH⟩:=hrel
  obtain ⟨r0,r1,r2,-,hs4,hbw⟩:=M HX
  have jp:=(M kH).bl
  have ke:w.heap.size + 4 ≤ wr.heap.size:=by have:=jp.size; omega
  have d1:=zq (zG r0 jp (by omega)) 1 rfl
  have xJ:=Q hbw
  have HE:=Q (zG r1 jp (by omega))
  have jx:=Q (zG r2 jp (by omega))
  have HBL:=Q jp
  clear r0 r1 r2 hbw hs4 jp
  have hLl:(hitF (l.take k) xw qty).length ≤ 20:=by
   rw [hitF]
   exact yK (List.length_filter_le _ _) (by rw [List.length_map]; exact yK (List.length_take_le _ _) (by omega))
  by_cases xL:k < l.length
  ·obtain ⟨o,kU⟩:∃ o,l[k]? = some o:=⟨_,yE xL⟩
   obtain ⟨b,off,rfl,hb,pG⟩:=M HC k o kU
   have aw:=M HB o (yL kU)
   have uO:(k:Int) < l.length:=by omega
   obtain ⟨p0,p1,p2,p3,p4,p5⟩:=zx (zb (zb pG (M xJ) hb) (M HBL) (by omega))
   have kr:hitF (l.take (k + 1)) xw qty = hitF (l.take k) xw qty ++ hitF [o] xw qty:=by rw [List.take_add_one,kU,hitF_app]; rfl
   have oK:=Q kr
   have HA:Hid (HiS B n vq (hitF (l.take k) xw qty) W4 (wr.alloc (E (yt o.id o.side o.ticks o.left o.life o.tag).toArray 49))):=hiS_grow (M kH) (eD _ _)
   have pm:=Q (aT wr (yt o.id o.side o.ticks o.left o.life o.tag) 49)
   have hsA:=ze wr (E (yt o.id o.side o.ticks o.left o.life o.tag).toArray 49)
   have kN:=Q (zG (M HE) ((Below.refl wr.heap.size wr).alloc tg (E (yt o.id o.side o.ticks o.left o.life o.tag).toArray 49)) (by omega))
   clear kr pG kU
   have jz:=zq (M kN) 10 rfl
   have pq:=zq (M kN) 11 rfl
   have a0:=zq (M pm) 0 rfl
   have a3:=zq (M pm) 3 rfl
   by_cases vM:o.id = xw
   ·have hib:(o.id == xw) = true:=by simpa using vM
    have z3:=bd (M pm) 3 (by show 3 < 6; omega)
    have hw:IntKind.i64.wrap (o.left - qty) = o.left - qty:=by rw [IntKind.wrap_i64]; omega
    have HF3:Hid (hitF [o] xw qty = if 0 < o.left - qty then [{ o with left:=o.left - qty }] else []):=by
     show _ = _
     rw [hitF,List.map_cons,List.map_nil,if_pos vM]
     by_cases h0:0 < o.left - qty
     ·rw [if_pos h0,List.filter_cons_of_pos (by simpa using h0)]; rfl
     ·rw [if_neg h0,List.filter_cons_of_neg (by simpa using h0)]; rfl
    clear vM
    have uk:Hid (yl wr (wr.alloc (E (yt o.id o.side o.ticks (o.left - qty) o.life o.tag).toArray 49))):=eD _ _
    have HXC:=Q (aT wr (yt o.id o.side o.ticks (o.left - qty) o.life o.tag) 49)
    clear HA
    by_cases hp:0 < o.left - qty
    ·have HF4:=Q ((M HF3).trans (if_pos hp))
     have HHC:=Q (hiS_grow (M kH) (M uk))
     have hsC:((wr.alloc (E (yt o.id o.side o.ticks (o.left - qty) o.life o.tag).toArray 49))).heap.size = wr.heap.size + 1:=ze _ _
     have c1:=zq (M HHC).bx 1 rfl
     obtain ⟨b0,b1,b2,b3,b4,b5⟩:=yx (M HXC)
     go_wp2_with (at_builtin; go_must (refine wpList_append_own _ rfl _ _ 26 rfl (B + 1) 49 i0 _ 6 56 Tryz.underlying26 hi uq uw uM rfl (by decide) vq (hitF (l.take k) xw qty).length ((hitF (l.take k) xw qty).flatMap Od.vs) rfl ((M HHC).row.alloc _) (J (wr.heap.size + 1) 0) 1 1 (Od.mk o.id o.side o.ticks (o.left - qty) o.life o.tag).vs rfl rfl (cellsH hsC _ _) (by simp [Value.oneCell',Od.vs]) (by unfold maxLen; omega) (by omega) (by rw [ze,hsC]; omega) ?_); intro v5 w5 un vu _; obtain ⟨a5,c5,rfl⟩:=zO un; have HP:=Q (hiS_push (o:=Od.mk o.id o.side o.ticks (o.left - qty) o.life o.tag) (M HHC) un vu); have q1:=zq (M HP).1 1 rfl; have q2:=bd (M HP).1 1 (by show 1 < 2; omega); clear un vu)
     dsimp only [H,I,J,Z,yh,yi,ys,yt,yu,ym,yn,E]
     go_roundw
     case rel=>exact ⟨k + 1,.slice a5 _ c5,by omega,by go_num,by rw [M oK,M HF4]; exact (M HP).2⟩
     case measure=>simp [intOf]; omega
    ·have HF4:=Q ((M HF3).trans (if_neg hp))
     have b3:=zq (M HXC) 3 rfl
     have HHC:=Q (hiS_grow (M kH) (M uk))
     go_wp2_with fail
     dsimp only [H,I,J,Z,yh,yi,ys,yt,yu,ym,yn,E]
     go_roundw
     case rel=>exact ⟨k + 1,vq,by omega,by go_num,by rw [M oK,M HF4,List.append_nil]; exact M HHC⟩
     case measure=>simp [intOf]; omega
   ·have hib:(o.id == xw) = false:=by simpa using vM
    have hlp:(0:Int) < o.left:=aw.1
    have HF4:Hid (hitF [o] xw qty = [o]):=by
     show _ = _
     rw [hitF,List.map_cons,List.map_nil,if_neg vM,List.filter_cons_of_pos (by simpa using hlp)]; rfl
    clear vM
    have HHC:=HA
    have hsC:(wr.alloc (E (yt o.id o.side o.ticks o.left o.life o.tag).toArray 49)).heap.size = wr.heap.size + 1:=hsA
    have c1:=zq (M HHC).bx 1 rfl
    obtain ⟨b0,b1,b2,b3,b4,b5⟩:=yx (M pm)
    go_wp2_with (at_builtin; go_must (refine wpList_append_own _ rfl _ _ 26 rfl (B + 1) 49 i0 _ 6 56 Tryz.underlying26 hi uq uw uM rfl (by decide) vq (hitF (l.take k) xw qty).length ((hitF (l.take k) xw qty).flatMap Od.vs) rfl ((M HHC).row.alloc _) (J (wr.heap.size + 1) 0) 1 1 (Od.mk o.id o.side o.ticks o.left o.life o.tag).vs rfl rfl (cellsH hsC _ _) (by simp [Value.oneCell',Od.vs]) (by unfold maxLen; omega) (by omega) (by rw [ze,hsC]; omega) ?_); intro v5 w5 un vu _; obtain ⟨a5,c5,rfl⟩:=zO un; have HP:=Q (hiS_push (o:=Od.mk o.id o.side o.ticks o.left o.life o.tag) (M HHC) un vu); have q1:=zq (M HP).1 1 rfl; have q2:=bd (M HP).1 1 (by show 1 < 2; omega); clear un vu)
    dsimp only [H,I,J,Z,yh,yi,ys,yt,yu,ym,yn,E]
    go_roundw
    case rel=>exact ⟨k + 1,.slice a5 _ c5,by omega,by go_num,by rw [M oK,M HF4]; exact (M HP).2⟩
    case measure=>simp [intOf]; omega
  ·obtain rfl:k = l.length:=by omega
   rw [yW tg] at kH
   have hnl:¬ ((l.length:Int) < l.length):=by omega
   obtain ⟨av,cv,rfl⟩:=zO (M kH).row
   have o0:=zq (M kH).bx 0 rfl
   have o1:=zq (M kH).bx 1 rfl
   have m0:=zq (M jx) 0 rfl
   have m1:=zq (M jx) 1 rfl
   have k0:=bd (M jx) 0 (by show 0 < 2; omega)
   have k1:=bd (M jx) 1 (by show 1 < 2; omega)
   rw [show w.heap.size + 2 = B2 by omega] at m0 m1 k0 k1
   have HSB:Hid (yl w (World.setCells wr B2 0 [H n,.slice av (hitF l xw qty).length cv])):=zu B2 (by omega) _ 0 wr ((M xJ).trans ((M HBL).mono (by omega)))
   have HSO:Hid (ORow (World.setCells wr B2 0 [H n,.slice av (hitF l xw qty).length cv]) w.heap.size (.slice av (hitF l xw qty).length cv) (hitF l xw qty)):=by
    have xA:some B2 ≠ (Value.slice av (hitF l xw qty).length cv).ownBlock:=fun e=>by have:=((M kH).row.lt _ e.symm).1; omega
    exact zA (dk xA _ _ _ (M kH).row) (by omega)
   have HRG:Hid ((World.setCells wr B2 0 [H n,.slice av (hitF l xw qty).length cv]).rangeAt B2 0 [H n,.slice av (hitF l xw qty).length cv]):=yU _ _ _ _ (by have:=(M jx).t; rw [show w.heap.size + 2 = B2 by omega] at this; exact this)
   go_wp2_with fail
   change bodyPost _ _ _ _ _ (World.setCells wr B2 0 [H n,.slice av (hitF l xw qty).length cv])
   generalize World.setCells wr B2 0 [H n,.slice av (hitF l xw qty).length cv] = WE at HSB HSO HRG ⊢
   have d0:WE.cell? (J B2 0) = some (H n):=M HRG 0 _ rfl
   have d1:WE.cell? (J B2 1) = some (.slice av (hitF l xw qty).length cv):=M HRG 1 _ rfl
   refine bodyPost_ret (by simp [results,Tryz.results20,go_sem,d0,d1]; try rfl) rfl ?_
   exact ⟨_,rfl,M HSO,M HSB⟩
def frRes (next:Int) (l:List Od) (sd:Int):Value :=
 if okS next l = true then (match (quOf (decide (sd = 1)) (zn l sd)).head? with
  | some o=>.tuple #[o.val,H 0]
  | none=>.tuple #[zOdv,H 6])
 else .tuple #[zOdv,H 1]
theorem dQ {w:World} {p:Nat} {v0 v1 v2 v3 v4 v5:Value} (ht:w.there p 0 6) :
  ((((((w.setCell (J p 0) v0).setCell (J p 1) v1).setCell (J p 2) v2).setCell (J p 3) v3).setCell (J p 4) v4).setCell (J p 5) v5).rangeAt p 0 [v0,v1,v2,v3,v4,v5]:=yU w p 0 [v0,v1,v2,v3,v4,v5] (fun j L=>ht j L)
theorem dP {W w:World} {B p:Nat} {v0 v1 v2 v3 v4 v5:Value} (h:Below B W w) (hp:B ≤ p) :
  Below B W ((((((w.setCell (J p 0) v0).setCell (J p 1) v1).setCell (J p 2) v2).setCell (J p 3) v3).setCell (J p 4) v4).setCell (J p 5) v5) :=
 zu p hp [v0,v1,v2,v3,v4,v5] 0 w h
theorem field0_b (b:Nat) (W:World):Sem.run Tryz.prog (Instr.field 81 (.agg #[.func (.func 122) #[I b 0] #[],.func (.func 123) #[I b 0] #[],.func (.func 124) #[I b 0] #[]]) 0) W = .ok (.func (.func 122) #[I b 0] #[]) W:=by kernel_rfl
theorem field0_s (b:Nat) (W:World):Sem.run Tryz.prog (Instr.field 81 (.agg #[.func (.func 126) #[I b 0] #[],.func (.func 127) #[I b 0] #[],.func (.func 128) #[I b 0] #[]]) 0) W = .ok (.func (.func 126) #[I b 0] #[]) W:=by kernel_rfl
theorem okS_left {next:Int} {l:List Od} (h:okS next l = true):l.length ≤ 20∧aH l∧∀ o ∈ l,0 ≤ o.left∧o.left ≤ 1000000:=by
 simp only [okS,xb,xc] at h
 obtain ⟨⟨⟨_,K⟩,h3⟩,_⟩:=h
 refine ⟨K,(dG h3).1,fun o Y=>?_⟩
 have:=dK h3 o Y
 simp [ordB,betB] at this
 omega
end Go.Proofs.YtbakanofkghmiaaGreat
