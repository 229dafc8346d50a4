/-
  What the types of orders promise, of the groups that a script leads to. No function walked.
-/
import Derived.Test.YtbakanofkghmiaaGreatTj49
set_option linter.unusedVariables false
set_option maxHeartbeats 6400000
set_option maxRecDepth 100000
namespace Go.Proofs.YtbakanofkghmiaaGreat
open Go.RowKit
def sK (kd:Int):List Ev→Int
 | []=>0
 | e :: es=>(if e.kind = kd then e.qty else 0) + sK kd es
theorem cn (kd:Int):∀ a b:List Ev,sK kd (a ++ b) = sK kd a + sK kd b
 | [],b=>by simp [sK]
 | e :: a,b=>by rw [List.cons_append,sK,sK,cn kd a b]; omega
theorem sK_take {kd:Int} {es:List Ev} {k:Nat} {e:Ev} (h:es[k]? = some e):sK kd (es.take (k + 1)) = sK kd (es.take k) + (if e.kind = kd then e.qty else 0):=by
 rw [List.take_add_one,h,cn]; simp [sK]
def QtyOk (es:List Ev):Prop:=∀ e ∈ es,0 ≤ e.qty∧e.qty ≤ 1000000
theorem sK_bound {kd:Int}:∀ {es:List Ev},QtyOk es→0 ≤ sK kd es∧sK kd es ≤ 1000000 * es.length
 | [],_=>by simp [sK]
 | e :: es,h=>by
  have Q:=h e (by simp)
  have N:=sK_bound (kd:=kd) (es:=es) (fun x hx=>h x (by simp [hx]))
  rw [sK,List.length_cons]
  split <;> omega
theorem qty_take {es:List Ev} (h:QtyOk es) (k:Nat):QtyOk (es.take k):=fun e he=>h e (List.mem_of_mem_take he)
theorem sK_none {kd:Int}:∀ {es:List Ev},(∀ e ∈ es,e.kind = 3)→kd ≠ 3→sK kd es = 0
 | [],_,_=>rfl
 | e :: es,h,hk=>by
  have Q:=h e (by simp)
  rw [sK,if_neg (by omega),sK_none (fun x hx=>h x (by simp [hx])) hk]; rfl
theorem matL_sums {c:Cm} {id:Int}:∀ (n:Nat) (l:List Od) (left:Int) (ts:List Ev),GoodL l→0 ≤ left→left ≤ 1000000→(∀ e ∈ ts,e.kind = 3∧0 ≤ e.qty∧e.qty ≤ 1000000) →
  (matL c id n l left ts).2.1 + sK 3 (matL c id n l left ts).2.2 = left + sK 3 ts∧∀ e ∈ (matL c id n l left ts).2.2,e.kind = 3∧0 ≤ e.qty∧e.qty ≤ 1000000
 | 0,l,left,ts,h,h0,Q,ht=>⟨rfl,ht⟩
 | n + 1,l,left,ts,h,h0,Q,ht=>by
  rw [matL]
  by_cases hl:0 < left
  ·rw [if_pos hl]
   cases hf:pW l (othS c.s) with
   | none=>exact ⟨rfl,ht⟩
   | some o =>
    simp only
    by_cases hm:az c o = true
    ·rw [if_pos hm]
     obtain ⟨vz,_⟩:=cN hf
     obtain ⟨k,hk⟩:=List.getElem?_of_mem vz
     have Z:=h.left o vz
     rw [plc_at h.rise hk,Int.toNat_natCast]
     obtain ⟨e1,e2⟩:=matL_sums (c:=c) (id:=id) n (pO l k o (min left o.left)) (left - min left o.left) (ts ++ [trE id o.id (min left o.left) o.ticks]) (cw h hk (by omega) (by omega)).1 (by omega) (by omega) (fun e he=>by
      rcases List.mem_append.1 he with he | he
      ·exact ht e he
      ·rw [List.mem_singleton.1 he]
       exact ⟨rfl,by show 0 ≤ min left o.left; omega,by show min left o.left ≤ 1000000; omega⟩)
     refine ⟨?_,e2⟩
     rw [e1,cn]
     have:sK 3 [trE id o.id (min left o.left) o.ticks] = min left o.left:=by simp [sK,trE]
     rw [this]; omega
    ·rw [if_neg hm]; exact ⟨rfl,ht⟩
  ·rw [if_neg hl]; exact ⟨rfl,ht⟩
theorem stE_lenT {next:Int} {l:List Od} {c:Cm} (hg:GoodL l):(stE next l c).length ≤ 100:=by
 have hl:=hg.len
 rw [stE]
 split
 ·split
  ·have Q:=cx (c:=c) (id:=next) 21 l c.q []
   rw [accE]
   simp only [yN,List.length_cons,List.length_nil] at Q ⊢
   split <;> simp <;> omega
  ·split
   ·split <;> simp
   ·split
    ·simp
    ·have Q:(l.filter dyB).length ≤ 20:=yL (List.length_filter_le _ _) hl
     simp only [List.length_cons,List.length_map]; omega
 ·simp
def TyOk (c:Cm) (g:List Ev):Prop :=
 ∃ e es,g = e :: es∧g.length ≤ 100∧(e.kind ≠ 1 ∨ (e.kind = 1∧QtyOk g∧1 ≤ c.q∧c.q ≤ 1000000∧sK 3 g + sK 4 g + sK 5 g = c.q∧(c.t = 5→sK 3 g ≤ 0)∧(c.t = 4→sK 3 g = c.q)∧(c.t = 2 ∨ c.t = 3→sK 4 g ≤ 0)∧(c.t = 1 ∨ c.t = 5→sK 5 g ≤ 0)))
theorem ty_acc {n:Int} {l:List Od} {c:Cm} (hg:GoodL l) (h0:refR n l c = 0) (hk:c.k = 1):TyOk c (stE n l c):=by
 have vy:stE n l c = accE c n (matL c n 21 l c.q []):=by rw [stE,if_pos h0,if_pos hk]
 rw [refR,if_pos hk] at h0
 split at h0
 ·rw [newR] at h0
  have F:betB c.q 1 1000000 = true:=by
   cases F:betB c.q 1 1000000
   ·exfalso
    revert h0
    rw [F]
    repeat (split; (intro h; cases h))
    intro _
    simp at *
   ·rfl
  have hq:1 ≤ c.q∧c.q ≤ 1000000:=by simpa [betB] using F
  have hm:matR n c (matL c n 21 l c.q []) = 0:=by
   revert h0
   repeat (split; (intro h; cases h))
   exact id
  obtain ⟨s1,s2⟩:=matL_sums (c:=c) (id:=n) 21 l c.q [] hg (by omega) hq.2 (by simp)
  obtain ⟨-,g1,g2⟩:=ba (c:=c) (id:=n) 21 l c.q [] hg (by omega) hq.2
  have xB:(stE n l c).length ≤ 100:=stE_lenT hg
  rw [vy] at xB ⊢
  generalize matL c n 21 l c.q [] = hb at s1 s2 g1 g2 hm xB ⊢
  have k4:sK 4 hb.2.2 = 0:=sK_none (fun e he=>(s2 e he).1) (by decide)
  have k5:sK 5 hb.2.2 = 0:=sK_none (fun e he=>(s2 e he).1) (by decide)
  rw [matR] at hm
  have hp:¬ (c.t = 5∧0 < hb.2.2.length):=fun h=>by rw [if_pos h] at hm; cases hm
  rw [if_neg hp] at hm
  have hf:¬ (c.t = 4∧0 < hb.2.1):=fun h=>by rw [if_pos h] at hm; cases hm
  have z0:sK 3 ([]:List Ev) = 0:=rfl
  have h5:c.t = 5→sK 3 hb.2.2 = 0:=fun h=>by
   have:hb.2.2 = []:=List.length_eq_zero_iff.1 (by omega)
   rw [this]; rfl
  rw [accE] at xB ⊢
  refine ⟨_,_,List.cons_append,xB,.inr ⟨rfl,?_,hq.1,hq.2,?_⟩⟩
  ·intro e he
   rcases List.mem_append.1 he with he | he
   ·rcases List.mem_cons.1 he with rfl | he
    ·exact ⟨by show (0:Int) ≤ 0; decide,by show (0:Int) ≤ 1000000; decide⟩
    ·exact (s2 e he).2
   ·split at he
    ·rw [List.mem_singleton.1 he]; exact ⟨g1,g2⟩
    ·cases he
  ·rw [cn,cn,cn]
   have a3:∀ (kd:Int),kd ≠ 1→sK kd (⟨1,⟨1,c.s,c.t,c.l,c.q,0,c.p,c.g⟩,n,0,0,0,0⟩ :: hb.2.2) = sK kd hb.2.2:=fun kd hkd=>by
    rw [sK,if_neg (fun e=>hkd e.symm),Int.zero_add]
   rw [a3 3 (by decide),a3 4 (by decide),a3 5 (by decide)]
   by_cases hl:0 < hb.2.1
   ·rw [if_pos hl]
    by_cases hr:pP c.t = true
    ·rw [if_pos hr]
     have hr':c.t = 1 ∨ c.t = 5:=by simpa [pP] using hr
     simp only [sK]
     simp
     omega
    ·rw [if_neg hr]
     have hr':¬ (c.t = 1 ∨ c.t = 5):=by simpa [pP] using hr
     simp only [sK]
     simp
     omega
   ·rw [if_neg hl]
    simp only [sK]
    omega
 ·cases h0
theorem ty_other {n:Int} {l:List Od} {c:Cm} (hg:GoodL l) (h:¬ (refR n l c = 0∧c.k = 1)):TyOk c (stE n l c):=by
 have xB:(stE n l c).length ≤ 100:=stE_lenT hg
 by_cases h0:refR n l c = 0
 ·have hk:c.k ≠ 1:=fun hk=>h ⟨h0,hk⟩
  have vy:stE n l c = if c.k = 2 then (match l[(plc l c.i).toNat]? with | some o=>[⟨6,zCm,c.i,0,o.left,0,0⟩] | none=>[]) else if c.k = 3 then [⟨7,zCm,c.i,0,c.q,0,0⟩] else ⟨8,zCm,0,0,((l.filter dyB).length:Nat),0,0⟩ :: (l.filter dyB).map expE:=by
   rw [stE,if_pos h0,if_neg hk]; rfl
  by_cases N:c.k = 2
  ·rw [if_pos N] at vy
   rw [refR,if_neg hk,if_pos N] at h0
   split at h0
   ·rw [idR] at h0
    rcases cj l c.i with hp | ⟨k,o,hp,Z⟩
    ·rw [if_pos (by omega)] at h0; cases h0
    ·rw [hp,Int.toNat_natCast,Z] at vy
     simp only at vy
     exact ⟨_,_,vy,xB,.inl (show (6:Int) ≠ 1 by decide)⟩
   ·cases h0
  ·rw [if_neg N] at vy
   by_cases h3:c.k = 3
   ·rw [if_pos h3] at vy
    exact ⟨_,_,vy,xB,.inl (show (7:Int) ≠ 1 by decide)⟩
   ·rw [if_neg h3] at vy
    exact ⟨_,_,vy,xB,.inl (show (8:Int) ≠ 1 by decide)⟩
 ·have vy:stE n l c = [⟨2,⟨c.k,c.s,c.t,c.l,c.q,c.i,c.p,cutB c.g⟩,0,0,0,0,refR n l c⟩]:=by rw [stE,if_neg h0]
  exact ⟨_,_,vy,xB,.inl (show (2:Int) ≠ 1 by decide)⟩
theorem ty_all {n:Int} {l:List Od} {c:Cm} (hg:GoodL l):TyOk c (stE n l c):=by
 by_cases h:refR n l c = 0∧c.k = 1
 ·exact ty_acc hg h.1 h.2
 ·exact ty_other hg h
theorem run_lenT (cs:List Cm):∀ k,k ≤ cs.length→(runS (cs.take k)).g.length = k:=by
 intro k
 induction k with
 | zero=>intro _; simp [runS]
 | succ k ih =>
  intro hk
  obtain ⟨c,hc⟩:∃ c,cs[k]? = some c:=⟨_,yF (by omega)⟩
  rw [cz cs hc]
  show ((runS (cs.take k)).g ++ [_]).length = k + 1
  rw [yN,ih (by omega)]; rfl
theorem run_group (cs:List Cm):∀ k,k ≤ cs.length→∀ i,i < k→∃ c,cs[i]? = some c∧(runS (cs.take k)).g[i]? = some (stE (runS (cs.take i)).n (runS (cs.take i)).l c):=by
 intro k
 induction k with
 | zero=>intro _ i hi; omega
 | succ k ih =>
  intro hk i hi
  obtain ⟨c,hc⟩:∃ c,cs[k]? = some c:=⟨_,yF (by omega)⟩
  have hl:=run_lenT cs k (by omega)
  rw [cz cs hc]
  by_cases h:i < k
  ·obtain ⟨d,Q,N⟩:=ih (by omega) i h
   refine ⟨d,Q,?_⟩
   show ((runS (cs.take k)).g ++ [_])[i]? = _
   rw [List.getElem?_append_left (by omega)]
   exact N
  ·obtain rfl:i = k:=by omega
   refine ⟨c,hc,?_⟩
   show ((runS (cs.take i)).g ++ [_])[i]? = _
   rw [List.getElem?_append_right (by omega),hl]
   simp
theorem types_ok (cs:List Cm) (h:cs.length ≤ 200) (i:Nat) (c:Cm) (g:List Ev) (hc:cs[i]? = some c) (hg:(rsF cs).g[i]? = some g):TyOk c g:=by
 have hi:=(yE.1 hc).1
 obtain ⟨d,Q,N⟩:=run_group cs cs.length qt i hi
 rw [yX qt] at N
 have hr:(rsF cs).g = (runS cs).g:=by rw [rsF,if_pos h]
 rw [hr,N] at hg
 rw [hc] at Q
 obtain rfl:=Option.some.inj Q
 obtain rfl:=Option.some.inj hg
 exact ty_all (run_take cs h i (by omega)).1.good
theorem typLaw (v:Value) (l:List Int) (w:World) (hr:Rd w v l) (F:Bts l) (hl:l.length ≤ 1048576) :
  Calls Tryz.prog 6 #[v] w fun e w'=>e = yl (.bool true)∧ym w w':=by
 have HR:=Y hr
 have HBT:=Y F
 obtain ⟨a,E,rfl,-,-⟩:=hr
 clear F
 have hl':¬ ((1048576:Int) < l.length):=by omega
 go_enter Tryz.func6,Tryz.ntmps6
 go_wp2_with fail
 refine (scriptOf_any _ l w (U HR) (U HBT)).mono ?_
 rintro e w1 ⟨o,cs,rfl,oL,hn,xK,xS⟩
 obtain ⟨ao,co,rfl⟩:=cW xK
 have HRC:Hid (RdR Cm.vs 8 w1 (.slice ao cs.length co) cs):=ownR_rd (bj Cm.len (by omega) xK)
 have qF:Hid (∀ c ∈ cs,c.g.size ≤ maxLen):=fun c hc=>yL (oL c hc) (by unfold maxLen; omega)
 have xT:=Y xS
 have HTY:=Y (fun i c g hc hg=>types_ok cs (by omega) i c g hc hg)
 have kj:Hid ((rsF cs).g.length = cs.length):=by
  show _ = _
  rw [rsF,if_pos (by omega)]
  exact (run_inv cs (by omega)).2.2.2
 have hcf:cntF cs.length = 0:=cntF_zero.2 (by omega)
 have HIM:=Y (fun W hW=>implRunScript_any (.slice ao cs.length co) cs W hW (U qF))
 have HSM:=Y (fun W hW=>specRunScript_any (.slice ao cs.length co) cs W hW (U qF))
 simp only [hcf] at HIM HSM
 generalize rsF cs = hb at HTY kj HIM HSM
 have HGM:Hid (∀ es ∈ hb.g,es.length ≤ 1000):=fun es he=>by
  obtain ⟨i,hi⟩:=List.getElem?_of_mem he
  have xH:=(yE.1 hi).1
  obtain ⟨c,hc⟩:∃ c,cs[i]? = some c:=⟨_,yF (by rw [U kj] at xH; exact xH)⟩
  obtain ⟨_,_,_,Q,_⟩:=U HTY i c es hc hi
  omega
 clear oL xK xS HR HBT hcf qF
 go_wp2_with fail
 refine (U HIM w1 (U HRC)).mono ?_
 rintro e w2 ⟨gv,vq,rfl,uh,ow,xU⟩
 obtain ⟨gs,qd,vW,uV,-⟩:=uh.ex
 have kt:=grs_rd qd vW uV (by rw [U kj]; omega) (U HGM)
 obtain ⟨ag,cg,rfl,-⟩:=id kt
 obtain ⟨aq,cq,rfl⟩:=cW ow
 have uv:Hid (ym w (w2.alloc (D #[.slice ag hb.g.length cg,H hb.n,.slice aq hb.l.length cq,H hb.t.gr,H hb.t.ac,H hb.t.rf,H hb.t.tr,H hb.t.vo,H hb.t.no,H hb.t.li,H hb.t.le] 32))):=(dq (U xT) xU).trans ((dm _ _).mono (yL (U xT).size xU.size))
 have HX:=Y (bF w2 [.slice ag hb.g.length cg,H hb.n,.slice aq hb.l.length cq,H hb.t.gr,H hb.t.ac,H hb.t.rf,H hb.t.tr,H hb.t.vo,H hb.t.no,H hb.t.li,H hb.t.le] 32)
 have qM:w2.heap.size < (w2.alloc (D #[.slice ag hb.g.length cg,H hb.n,.slice aq hb.l.length cq,H hb.t.gr,H hb.t.ac,H hb.t.rf,H hb.t.tr,H hb.t.vo,H hb.t.no,H hb.t.li,H hb.t.le] 32)).heap.size:=by simp
 have HRG:=Y (rdG_below kt ((Below.refl w2.heap.size w2).alloc qt (D #[.slice ag hb.g.length cg,H hb.n,.slice aq hb.l.length cq,H hb.t.gr,H hb.t.ac,H hb.t.rf,H hb.t.tr,H hb.t.vo,H hb.t.no,H hb.t.li,H hb.t.le] 32)) qt)
 have HRC2:=Y (zl (zl (U HRC) xU qt) ((Below.refl w2.heap.size w2).alloc qt (D #[.slice ag hb.g.length cg,H hb.n,.slice aq hb.l.length cq,H hb.t.gr,H hb.t.ac,H hb.t.rf,H hb.t.tr,H hb.t.vo,H hb.t.no,H hb.t.li,H hb.t.le] 32)) qt)
 clear uh ow xU qd vW uV kt HRC HIM xT
 go_wp2_with fail
 generalize (w2.alloc (D #[.slice ag hb.g.length cg,H hb.n,.slice aq hb.l.length cq,H hb.t.gr,H hb.t.ac,H hb.t.rf,H hb.t.tr,H hb.t.vo,H hb.t.no,H hb.t.li,H hb.t.le] 32)) = W2 at uv HX qM HRG HRC2 ⊢
 refine (U HSM W2 (U HRC2)).mono ?_
 rintro e w4 ⟨gv,vq,rfl,uh,ow,xz⟩
 obtain ⟨gs,qd,vW,uV⟩:=uh.ex
 have kt:=grs_rd qd vW uV (by rw [U kj]; omega) (U HGM)
 obtain ⟨ag2,cg2,rfl,-⟩:=id kt
 obtain ⟨aq2,cq2,rfl⟩:=cW ow
 obtain ⟨hal,HY5⟩:=dt w4 [.slice ag2 hb.g.length cg2,H hb.n,.slice aq2 hb.l.length cq2,H hb.t.gr,H hb.t.ac,H hb.t.rf,H hb.t.tr,H hb.t.vo,H hb.t.no,H hb.t.li,H hb.t.le] 32
 have kf:=Y ((U uv).trans ((dq xz hal).mono (U uv).size))
 have HX5:=Y (bx_below (U HX) (dq xz hal) qM)
 have jB:=Y (rdG_below (U HRG) (dq xz hal) qt)
 have HH5:=Y (rdG_below kt hal qt)
 have HC5:=Y (zl (U HRC2) (dq xz hal) qt)
 have hsz5:w2.heap.size < w4.heap.size∧w4.heap.size < (w4.alloc (D #[.slice ag2 hb.g.length cg2,H hb.n,.slice aq2 hb.l.length cq2,H hb.t.gr,H hb.t.ac,H hb.t.rf,H hb.t.tr,H hb.t.vo,H hb.t.no,H hb.t.li,H hb.t.le] 32)).heap.size:=⟨yH qM xz.size,by simp⟩
 clear uh ow xz hal qd vW uV kt HRC2 HRG HX uv HSM
 have x0:∀ W,W = w4.alloc (D #[.slice ag2 hb.g.length cg2,H hb.n,.slice aq2 hb.l.length cq2,H hb.t.gr,H hb.t.ac,H hb.t.rf,H hb.t.tr,H hb.t.vo,H hb.t.no,H hb.t.li,H hb.t.le] 32)→W.cell? (yp w2 0) = some (.slice ag hb.g.length cg)∧W.cell? (yp w4 0) = some (.slice ag2 hb.g.length cg2):=fun W e=>by subst e; exact ⟨bx_cell (U HX5) 0 rfl,bx_cell (U HY5) 0 rfl⟩
 obtain ⟨x0,y0⟩:=x0 _ rfl
 go_wp2_with fail
 refine (smGs_same _ _ hb.g _ (U jB) (U HH5)).mono ?_
 rintro e w6 ⟨rfl,ka⟩
 have kg:=Y (dq (U kf) ka)
 have HX6:=Y (bx_below (U HX5) ka (Nat.lt_trans hsz5.1 hsz5.2))
 have ki:=Y (rdG_below (U jB) ka qt)
 have HC6:=Y (zl (U HC5) ka qt)
 clear ka kf HX5 HY5 jB HH5 HC5 x0 y0 hsz5 qM
 have x0:w6.cell? (yp w2 0) = some (.slice ag hb.g.length cg):=bx_cell (U HX6) 0 rfl
 go_wp2_with fail
 go_loopw [8] (fun i wr=>∃ k:Nat,k ≤ hb.g.length∧i = H k∧wr = w6) (fun i _=>hb.g.length - (intOf i).toNat)
 case atStart=>exact ⟨0,Nat.zero_le _,rfl,rfl⟩
 case round =>
  obtain ⟨k,hk,rfl,rfl⟩:=hrel
  by_cases xH:k < hb.g.length
  ·obtain ⟨es,vk⟩:∃ es,hb.g[k]? = some es:=⟨_,yF xH⟩
   obtain ⟨c,hc⟩:∃ c,cs[k]? = some c:=⟨_,yF (by rw [← U kj]; exact xH)⟩
   have hty:=U HTY k c es hc vk
   have uu:(k:Int) < hb.g.length:=by omega
   have kc:(k:Int) < cs.length:=by rw [← U kj]; exact uu
   obtain ⟨gb,go,ga,gc,rfl,g0,hre⟩:∃ gb go ga gc,ag = some (J gb go)∧wr.cell? (J gb (go + k)) = some (.slice ga es.length gc)∧RdR Ev.vs 14 wr (.slice ga es.length gc) es:=by
    obtain ⟨a1,c1,e1,-,Q⟩:=U ki
    simp only [Value.slice.injEq,true_and] at e1
    obtain ⟨b,off,N,-,h3⟩:=Q (by intro h; rw [h] at vk; simp at vk)
    obtain ⟨g,h4,h5⟩:=h3 k es vk
    obtain ⟨ga,gc,rfl,-⟩:=id h5
    exact ⟨b,off,ga,gc,e1.1.trans N,h4,h5⟩
   obtain ⟨lb,lo,rfl,qh⟩:∃ lb lo,ao = some (J lb lo)∧wr.rangeAt lb (lo + k * 8) c.vs:=by
    obtain ⟨a1,c1,e1,-,Q⟩:=U HC6
    simp only [Value.slice.injEq,true_and] at e1
    obtain ⟨b,off,N,-,h3⟩:=Q (by intro h; rw [h] at hc; simp at hc)
    exact ⟨b,off,e1.1.trans N,h3 k c hc⟩
   obtain ⟨e,es',rfl,jo,ow⟩:=hty
   obtain ⟨eb,eo,rfl,hev⟩:∃ eb eo,ga = some (J eb eo)∧∀ (j:Nat) (x:Ev),(e :: es')[j]? = some x→wr.rangeAt eb (eo + j * 14) x.vs:=by
    obtain ⟨a1,c1,e1,-,Q⟩:=hre
    simp only [Value.slice.injEq,true_and] at e1
    obtain ⟨b,off,N,-,h3⟩:=Q (by simp)
    exact ⟨b,off,e1.1.trans N,h3⟩
   have vv:=Y hev
   have jj:=Y qh
   have HOR:=Y ow
   have f0:wr.cell? (J eb eo) = some (H e.kind):=by have:=hev 0 e rfl 0 _ rfl; simpa using this
   have oo:(0:Int) < (e :: es').length:=by simp
   have HLE:Hid ((e :: es').length ≤ 100):=jo
   clear vk hc hev qh ow hre jo
   generalize hg:e :: es' = g at vv HOR HLE g0 oo
   have hge:Hid (g[0]? = some e):=by show _ = _; rw [← hg]; rfl
   clear hg es'
   by_cases he:e.kind = 1
   ·rcases U HOR with h | ⟨-,hq,qW,hq2,ql,h5,h4,h23,uM⟩
    ·exact absurd he h
    have HQ:=Y hq
    have HS:Hid (_∧_∧_∧_∧_):=⟨ql,h5,h4,h23,uM⟩
    rw [he] at f0
    clear hq ql h5 h4 h23 uM HOR
    have HK:Hid (∀ kd,kd ≠ 1→sK kd (g.take 1) = 0):=fun kd hkd=>by
     have Q:=sK_take (kd:=kd) (U hge)
     rw [Q,if_neg (by rw [he]; exact fun e=>hkd e.symm)]
     simp [sK]
    clear he
    have h1g:1 ≤ g.length:=by omega
    go_wp2_with fail
    go_loopw [10,11,12,13] (fun tr rs dr kv wq=>∃ j:Nat,1 ≤ j∧j ≤ g.length∧tr = H (sK 3 (g.take j))∧rs = H (sK 4 (g.take j))∧dr = H (sK 5 (g.take j))∧kv = H j∧wq = wr) (fun _ _ _ kv _=>g.length - (intOf kv).toNat)
    case atStart=>exact ⟨1,by omega,h1g,by rw [U HK 3 (by decide)],by rw [U HK 4 (by decide)],by rw [U HK 5 (by decide)],rfl,rfl⟩
    case round =>
     obtain ⟨j,hj1,R,rfl,rfl,rfl,rfl,rfl⟩:=hrel
     have b3:=sK_bound (kd:=3) (qty_take (U HQ) j)
     have b4:=sK_bound (kd:=4) (qty_take (U HQ) j)
     have b5:=sK_bound (kd:=5) (qty_take (U HQ) j)
     have hg100:g.length ≤ 100:=U HLE
     have hj100:(g.take j).length ≤ 100:=yL (List.length_take_le _ _) (yL R (U HLE))
     by_cases hjl:j < g.length
     ·obtain ⟨x,hx⟩:∃ x,g[j]? = some x:=⟨_,yF hjl⟩
      have hxr:=U vv j x hx
      obtain ⟨g0',g1',g2',g3',g4',g5',g6',g7',g8',g9',g10',g11',g12',g13'⟩:=bM hxr
      have hxq:=U HQ x (yM hx)
      have t3:=sK_take (kd:=3) hx
      have t4:=sK_take (kd:=4) hx
      have t5:=sK_take (kd:=5) hx
      have HT:Hid (_∧_∧_):=⟨t3,t4,t5⟩
      have hjl':(j:Int) < g.length:=by omega
      clear t3 t4 t5 hx hxr g1' g2' g3' g4' g5' g6' g7' g8' g9' g10' g12' g13'
      by_cases k3:x.kind = 3
      ·rw [k3] at g0'
       have hw:IntKind.i64.wrap (sK 3 (g.take j) + x.qty) = sK 3 (g.take j) + x.qty:=by rw [IntKind.wrap_i64]; omega
       simp only [k3,if_true] at HT
       clear k3
       go_wp2_with fail
       go_roundw
       case rel=>exact ⟨j + 1,by omega,by omega,by rw [(U HT).1]; try rfl,by rw [(U HT).2.1]; try simp,by rw [(U HT).2.2]; try simp,by go_num,by first | rfl | trivial⟩
       case measure=>simp [intOf]; omega
      ·by_cases k4:x.kind = 4
       ·rw [k4] at g0'
        have hw:IntKind.i64.wrap (sK 4 (g.take j) + x.qty) = sK 4 (g.take j) + x.qty:=by rw [IntKind.wrap_i64]; omega
        simp only [k4] at HT
        clear k3 k4
        go_wp2_with fail
        go_roundw
        case rel=>exact ⟨j + 1,by omega,by omega,by rw [(U HT).1]; try simp,by rw [(U HT).2.1]; try rfl,by rw [(U HT).2.2]; try simp,by go_num,by first | rfl | trivial⟩
        case measure=>simp [intOf]; omega
       ·by_cases k5:x.kind = 5
        ·rw [k5] at g0'
         have hw:IntKind.i64.wrap (sK 5 (g.take j) + x.qty) = sK 5 (g.take j) + x.qty:=by rw [IntKind.wrap_i64]; omega
         simp only [k5] at HT
         clear k3 k4 k5
         go_wp2_with fail
         go_roundw
         case rel=>exact ⟨j + 1,by omega,by omega,by rw [(U HT).1]; try simp,by rw [(U HT).2.1]; try simp,by rw [(U HT).2.2]; try rfl,by go_num,by first | rfl | trivial⟩
         case measure=>simp [intOf]; omega
        ·have q3:(x.kind == 3) = false:=by simpa using k3
         have q4:(x.kind == 4) = false:=by simpa using k4
         have q5:(x.kind == 5) = false:=by simpa using k5
         go_wp2_with fail
         go_roundw
         case rel=>exact ⟨j + 1,by omega,by omega,by rw [(U HT).1,if_neg k3]; try simp,by rw [(U HT).2.1,if_neg k4]; try simp,by rw [(U HT).2.2,if_neg k5]; try simp,by go_num,by first | rfl | trivial⟩
         case measure=>simp [intOf]; omega
     ·obtain rfl:j = g.length:=by omega
      have hjl':¬ ((g.length:Int) < g.length):=by omega
      rw [yX qt] at b3 b4 b5 hj100 ⊢
      obtain ⟨ql,h5,h4,h23,uM⟩:=U HS
      obtain ⟨l0,l1,l2,l3,l4,l5,l6,l7⟩:=cm_cells (U jj)
      generalize sK 3 g = s3 at b3 ql h5 h4 ⊢
      generalize sK 4 g = s4 at b4 ql h23 ⊢
      generalize sK 5 g = s5 at b5 ql uM ⊢
      have w1:IntKind.i64.wrap (s3 + s4) = s3 + s4:=by rw [IntKind.wrap_i64]; omega
      have w2':IntKind.i64.wrap (s3 + s4 + s5) = s3 + s4 + s5:=by rw [IntKind.wrap_i64]; omega
      have hcq:(s3 + s4 + s5 != c.q) = false:=by simpa using ql
      clear l0 l1 l3 l5 l6 l7 ql
      by_cases t5:c.t = 5
      ·have n3:¬ (0 < s3):=by have:=h5 t5; omega
       have n5:¬ (0 < s5):=by have:=uM (.inr t5); omega
       rw [t5] at l2
       clear h5 h4 h23 uM t5
       go_wp2_with fail
       go_roundw
       case rel=>exact ⟨k + 1,by omega,by go_num,by first | rfl | trivial⟩
       case measure=>simp [intOf]; omega
      by_cases t4:c.t = 4
      ·have n3:(s3 != c.q) = false:=by simpa using h4 t4
       rw [t4] at l2
       clear h5 h4 h23 uM t4 t5
       go_wp2_with fail
       go_roundw
       case rel=>exact ⟨k + 1,by omega,by go_num,by first | rfl | trivial⟩
       case measure=>simp [intOf]; omega
      have q5:(c.t == 5) = false:=by simpa using t5
      have q4:(c.t == 4) = false:=by simpa using t4
      by_cases t2:c.t = 2
      ·have n4:¬ (0 < s4):=by have:=h23 (.inl t2); omega
       rw [t2] at l2
       clear h5 h4 h23 uM t4 t5 t2 q5 q4
       go_wp2_with fail
       go_roundw
       case rel=>exact ⟨k + 1,by omega,by go_num,by first | rfl | trivial⟩
       case measure=>simp [intOf]; omega
      by_cases t3:c.t = 3
      ·have n4:¬ (0 < s4):=by have:=h23 (.inr t3); omega
       rw [t3] at l2
       clear h5 h4 h23 uM t4 t5 t2 t3 q5 q4
       go_wp2_with fail
       go_roundw
       case rel=>exact ⟨k + 1,by omega,by go_num,by first | rfl | trivial⟩
       case measure=>simp [intOf]; omega
      have q2:(c.t == 2) = false:=by simpa using t2
      have q3:(c.t == 3) = false:=by simpa using t3
      by_cases t1:c.t = 1
      ·have n5:¬ (0 < s5):=by have:=uM (.inl t1); omega
       rw [t1] at l2
       clear h5 h4 h23 uM t4 t5 t2 t3 t1 q5 q4 q2 q3
       go_wp2_with fail
       go_roundw
       case rel=>exact ⟨k + 1,by omega,by go_num,by first | rfl | trivial⟩
       case measure=>simp [intOf]; omega
      have q1:(c.t == 1) = false:=by simpa using t1
      clear h5 h4 h23 uM t4 t5 t2 t3 t1
      go_wp2_with fail
      go_roundw
      case rel=>exact ⟨k + 1,by omega,by go_num,by first | rfl | trivial⟩
      case measure=>simp [intOf]; omega
   ·have F:(e.kind != 1) = true:=by simpa using he
    go_wp2_with fail
    go_roundw
    case rel=>exact ⟨k + 1,by omega,by go_num,by first | rfl | trivial⟩
    case measure=>simp [intOf]; omega
  ·go_wp2_with fail
   go_ret
   exact ⟨rfl,U kg⟩
theorem lawTypes (a0:Option Addr) (len0 cap0:Nat) (z0:List Int) (w:World)
  (w0:(a0 = none∧len0 = 0∧cap0 = 0∧z0 = []) ∨ ∃ x,a0 = some x∧len0 ≤ cap0∧cap0 ≤ maxLen∧z0.length = cap0∧(∀ i,i < z0.length→w.cell? (x.add i) = some (.int .u8 (z0.getD i 0)))∧∀ n ∈ z0,(Lit.int .u8 n).wf = true) :
  Calls Tryz.prog 6 #[.slice a0 len0 cap0] w fun e w'=>e = yl (.bool true)∧ym w w':=by
 by_cases h0:1048576 < len0
 ·have h0':(1048576:Int) < len0:=by omega
  clear w0
  go_enter Tryz.func6,Tryz.ntmps6
  go_wp2_with fail
  go_ret
  exact ⟨rfl,Below.refl _ _⟩
 obtain ⟨e0,r0,b0⟩:=rd_of_row w0 (by omega)
 exact typLaw _ _ w r0 b0 (by omega)
end Go.Proofs.YtbakanofkghmiaaGreat
