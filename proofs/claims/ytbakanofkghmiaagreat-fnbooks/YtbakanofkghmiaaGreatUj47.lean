/-
  What the laws' own comparison of floats answers, proved by walking it.
-/
import Derived.Test.YtbakanofkghmiaaGreatUj35
set_option linter.unusedVariables false
set_option maxHeartbeats 6400000
set_option maxRecDepth 100000
namespace Go.Proofs.YtbakanofkghmiaaGreat
open Go.RowKit
theorem zero_read:FloatKind.f64.format.read 0 = .number false 0 FloatKind.f64.format.leastPlace:=by decide
theorem one_read:∃ m j,FloatKind.f64.format.read 4607182418800017408 = .number false m j∧m ≠ 0:=⟨_,_,rfl,by decide⟩
theorem zero_mag (s:Bool) (m a b:Nat) (h:Ieee.signed s m a = Ieee.signed false 0 b):m = 0:=by
 have h0:Ieee.signed false 0 b = 0:=by simp [Ieee.signed]
 rw [h0] at h
 have D:m <<< a = 0:=by
  cases s
  ·have h':((m <<< a:Nat):Int) = 0:=h
   omega
  ·have h':-((m <<< a:Nat):Int) = 0:=h
   omega
 rw [Nat.shiftLeft_eq] at D
 have:=Nat.two_pow_pos a
 rcases Nat.mul_eq_zero.1 D with h | h
 ·exact h
 ·omega
theorem div_zero (x:Nat) (h:FloatKind.f64.format.order x 0 = some Ordering.eq):∃ r,FloatKind.f64.format.div 4607182418800017408 x = some r:=by
 obtain ⟨m1,j1,G,hm1⟩:=one_read
 unfold Ieee.Format.order at h
 rw [zero_read] at h
 unfold Ieee.Format.div
 rw [G]
 cases hx:FloatKind.f64.format.read x with
 | nan s f=>rw [hx] at h; simp [Ieee.Datum.order] at h
 | infinity s=>rw [hx] at h; cases s <;> simp [Ieee.Datum.order] at h
 | number s m i =>
  rw [hx] at h
  simp only [Ieee.Datum.order,Option.some.injEq] at h
  have hm:=zero_mag s m _ _ (Std.LawfulEqCmp.eq_of_compare h)
  subst hm
  exact ⟨FloatKind.f64.format.write (.infinity s),by simp [Ieee.Datum.quotient,hm1]⟩
theorem sameFloat_any (x:Nat) (w:World) :
  Calls Tryz.prog 97 #[yi x,yi x] w fun e w'=>e = .returned (.bool true)∧w' = w:=by
 cases hn:nanB x with
 | true =>
  have h':(FloatKind.f64.format.order x x != some Ordering.eq) = true:=hn
  clear hn
  go_enter Tryz.func97,Tryz.ntmps97
  go_wp2
  go_ret
  exact ⟨rfl,rfl⟩
 | false =>
  have h':(FloatKind.f64.format.order x x != some Ordering.eq) = false:=hn
  have D:FloatKind.f64.format.order x x = some Ordering.eq:=by simpa using h'
  clear hn
  by_cases hz:FloatKind.f64.format.order x 0 = some Ordering.eq
  ·obtain ⟨r,hr⟩:=div_zero x hz
   have hq:∀ W,(binOp .quo 41 (yi 4607182418800017408) (yi x)).run Tryz.prog W = .ok (yi r) W:=fun W=>by simp [binOp,Op.floatArith,hr]
   have hz':(FloatKind.f64.format.order x 0 == some Ordering.eq) = true:=by rw [hz]; rfl
   clear hz hr
   go_enter Tryz.func97,Tryz.ntmps97
   go_wp2
   all_goals go_ret
   all_goals exact ⟨zq (by simp),rfl⟩
  ·have hz':(FloatKind.f64.format.order x 0 == some Ordering.eq) = false:=by simpa using hz
   clear hz
   go_enter Tryz.func97,Tryz.ntmps97
   go_wp2
   go_ret
   exact ⟨zq (by simp),rfl⟩
theorem smCmd_same (c:Cm) (w:World) :
  Calls Tryz.prog 79 #[.agg (yv c.k c.s c.t c.l c.q c.i c.p c.g).toArray,.agg (yv c.k c.s c.t c.l c.q c.i c.p c.g).toArray] w fun e w' =>
   e = yl (.bool true)∧ym w w':=by
 obtain ⟨k,s,t,l,q,i,p,g⟩:=c
 simp only
 go_enter Tryz.func79,Tryz.ntmps79
 go_wp2_with (go_at_call 97; refine (sameFloat_any _ _).mono ?_; rintro e w' ⟨rfl,rfl⟩)
 go_returns
 refine ⟨rfl,?_⟩
 go_grown
theorem smEvent_same (e:Ev) (w:World) :
  Calls Tryz.prog 42 #[evV e,evV e] w fun x w'=>x = yl (.bool true)∧ym w w':=by
 obtain ⟨uv,⟨k,s,t,l,q,i,p,g⟩,id,xM,qty,xT,xK⟩:=e
 unfold evV
 have HE:=Y (fun W=>smCmd_same ⟨k,s,t,l,q,i,p,g⟩ W)
 simp only at *
 have xz:(w.alloc (N (yt uv k s t l q i p g id xM qty xT xK).toArray 46)).heap.size = w.heap.size + 1:=dM _ _
 have xZ:((w.alloc (N (yt uv k s t l q i p g id xM qty xT xK).toArray 46)).alloc (N (yt uv k s t l q i p g id xM qty xT xK).toArray 46)).heap.size = w.heap.size + 1 + 1:=by rw [dM,xz]
 have b1:Below (w.heap.size + 1) (w.alloc (N (yt uv k s t l q i p g id xM qty xT xK).toArray 46)) ((w.alloc (N (yt uv k s t l q i p g id xM qty xT xK).toArray 46)).alloc (N (yt uv k s t l q i p g id xM qty xT xK).toArray 46)):=(Below.refl _ _).alloc (by rw [xz]; omega) _
 have r1:=zb (dS w (yt uv k s t l q i p g id xM qty xT xK) 46) b1 (by omega)
 have r2:=dS (w.alloc (N (yt uv k s t l q i p g id xM qty xT xK).toArray 46)) (yt uv k s t l q i p g id xM qty xT xK) 46
 rw [xz] at r2
 have HB:Hid (ym w ((w.alloc (N (yt uv k s t l q i p g id xM qty xT xK).toArray 46)).alloc (N (yt uv k s t l q i p g id xM qty xT xK).toArray 46))):=(eB _ _).alloc (by rw [xz]; omega) _
 have HX:Hid (_∧_∧_):=⟨r1,r2,xZ⟩
 clear r1 r2 b1 xz xZ
 go_enter Tryz.func42,Tryz.ntmps42
 go_wp2_with fail
 generalize ((w.alloc (N (yt uv k s t l q i p g id xM qty xT xK).toArray 46)).alloc (N (yt uv k s t l q i p g id xM qty xT xK).toArray 46)) = W at HX HB ⊢
 obtain ⟨jB,hr2,hsW⟩:=U HX
 refine (U HE _).mono ?_
 rintro e w2 ⟨rfl,xS⟩
 have xD:=Y (eE (U HB) xS)
 have q1:=zb jB xS (by omega)
 have q2:=zb hr2 xS (by omega)
 have x9:=q1 9 _ rfl
 have x10:=q1 10 _ rfl
 have x11:=q1 11 _ rfl
 have x12:=q1 12 _ rfl
 have x13:=q1 13 _ rfl
 have y9:=q2 9 _ rfl
 have az:=q2 10 _ rfl
 have y11:=q2 11 _ rfl
 have y12:=q2 12 _ rfl
 have y13:=q2 13 _ rfl
 clear jB hr2 q1 q2 xS HX HB hsW
 go_wp2_with fail
 go_returns
 exact ⟨rfl,U xD⟩
theorem smEvents_same (va vb:Value) (l:List Ev) (w:World) (ha:RdR Ev.vs 14 w va l) (O:RdR Ev.vs 14 w vb l) :
  Calls Tryz.prog 16 #[va,vb] w fun e w'=>e = yl (.bool true)∧ym w w':=by
 obtain ⟨aa,ca,rfl,hl,hca⟩:=ha
 obtain ⟨ab,cb,rfl,_,hcb⟩:=O
 have xo:∀ (k:Nat) (c:Ev),l[k]? = some c→∃ b off b' ux,aa = some (J b off)∧ab = some (J b' ux)∧b < w.heap.size∧b' < w.heap.size∧w.rangeAt b (off + k * 14) c.vs∧w.rangeAt b' (ux + k * 14) c.vs:=by
  intro k c hk
  have xA:l ≠ []:=by intro h; rw [h] at hk; simp at hk
  obtain ⟨b,off,G,D,h3⟩:=hca xA
  obtain ⟨b',ux,kn,ke,h3'⟩:=hcb xA
  exact ⟨b,off,b',ux,G,kn,D,ke,h3 k c hk,h3' k c hk⟩
 have HC:=Y xo
 clear xo hca hcb
 go_enter Tryz.func16,Tryz.ntmps16
 go_wp2_with fail
 go_loopw [5] (fun i wr=>∃ k:Nat,k ≤ l.length∧i = H k∧ym w wr) (fun i _=>l.length - (intOf i).toNat)
 case atStart=>exact ⟨0,Nat.zero_le _,rfl,Below.refl _ _⟩
 case round =>
  obtain ⟨k,hk,rfl,xh⟩:=hrel
  have HB:=Y xh
  clear xh
  by_cases xI:k < l.length
  ·obtain ⟨c,uJ⟩:∃ c,l[k]? = some c:=⟨_,yF xI⟩
   obtain ⟨b,off,b',ux,rfl,rfl,O,ko,X,vP⟩:=U HC k c uJ
   obtain ⟨g0,g1,g2,g3,g4,g5,g6,g7,g8,g9,qy,vI,ub,kO⟩:=dq (zb X (U HB) O)
   obtain ⟨e0,e1,e2,e3,e4,e5,e6,e7,e8,e9,jR,e11,ak,e13⟩:=dq (zb vP (U HB) ko)
   have uu:(k:Int) < l.length:=by omega
   clear uJ X vP O ko
   go_wp2_with fail
   go_region_with (go_at_call 42; refine (smEvent_same c _).mono ?_; rintro e w2 ⟨rfl,xS⟩; have xD:=Y ((U HB).drew.trans (xS.mono (U HB).drew.size)); clear xS)
   go_wp2_with fail
   go_roundw
   case rel=>exact ⟨k + 1,by omega,by go_num,U xD⟩
   case measure=>simp [intOf]; omega
   all_goals exact ⟨⟨k + 1,by omega,by go_num,U xD⟩,by simp [intOf]; omega⟩
  ·go_wp2_with fail
   go_ret
   exact ⟨rfl,U HB⟩
theorem smGs_same (va vb:Value) (gl:List (List Ev)) (w:World) (ha:RdG w va gl) (O:RdG w vb gl) :
  Calls Tryz.prog 12 #[va,vb] w fun e w'=>e = yl (.bool true)∧ym w w':=by
 obtain ⟨aa,ca,rfl,hl,hca⟩:=ha
 obtain ⟨ab,cb,rfl,_,hcb⟩:=O
 have xo:∀ (k:Nat) (es:List Ev),gl[k]? = some es→∃ b off b' ux ga gc ga' gc',aa = some (J b off)∧ab = some (J b' ux)∧b < w.heap.size∧b' < w.heap.size∧w.cell? (J b (off + k)) = some (.slice ga es.length gc)∧w.cell? (J b' (ux + k)) = some (.slice ga' es.length gc')∧RdR Ev.vs 14 w (.slice ga es.length gc) es∧RdR Ev.vs 14 w (.slice ga' es.length gc') es:=by
  intro k es hk
  have xA:gl ≠ []:=by intro h; rw [h] at hk; simp at hk
  obtain ⟨b,off,G,D,h3⟩:=hca xA
  obtain ⟨b',ux,kn,ke,h3'⟩:=hcb xA
  obtain ⟨g,h4,h5⟩:=h3 k es hk
  obtain ⟨g',h4',h5'⟩:=h3' k es hk
  obtain ⟨ga,gc,rfl,_⟩:=id h5
  obtain ⟨ga',gc',rfl,_⟩:=id h5'
  exact ⟨b,off,b',ux,ga,gc,ga',gc',G,kn,D,ke,h4,h4',h5,h5'⟩
 have HC:=Y xo
 clear xo hca hcb
 go_enter Tryz.func12,Tryz.ntmps12
 go_wp2_with fail
 go_loopw [5] (fun i wr=>∃ k:Nat,k ≤ gl.length∧i = H k∧ym w wr) (fun i _=>gl.length - (intOf i).toNat)
 case atStart=>exact ⟨0,Nat.zero_le _,rfl,Below.refl _ _⟩
 case round =>
  obtain ⟨k,hk,rfl,xh⟩:=hrel
  have HB:=Y xh
  clear xh
  by_cases xI:k < gl.length
  ·obtain ⟨es,uJ⟩:∃ es,gl[k]? = some es:=⟨_,yF xI⟩
   obtain ⟨b,off,b',ux,ga,gc,ga',gc',rfl,rfl,O,ko,X,vP,hr,hr'⟩:=U HC k es uJ
   have g0:=((U HB).cell (p:=(J b (off + k))) O).trans X
   have g1:=((U HB).cell (p:=(J b' (ux + k))) ko).trans vP
   have HRA:=Y (zh hr (U HB).drew hb)
   have HRB:=Y (zh hr' (U HB).drew hb)
   have uu:(k:Int) < gl.length:=by omega
   clear uJ X vP O ko hr hr'
   go_wp2_with fail
   go_region_with (go_at_call 16; refine (smEvents_same _ _ es _ (U HRA) (U HRB)).mono ?_; rintro e w2 ⟨rfl,xS⟩; have xD:=Y ((U HB).drew.trans (xS.mono (U HB).drew.size)); clear xS)
   go_wp2_with fail
   go_roundw
   case rel=>exact ⟨k + 1,by omega,by go_num,U xD⟩
   case measure=>simp [intOf]; omega
   all_goals exact ⟨⟨k + 1,by omega,by go_num,U xD⟩,by simp [intOf]; omega⟩
  ·go_wp2_with fail
   go_ret
   exact ⟨rfl,U HB⟩
def sK (kd:Int):List Ev→Int
 | []=>0
 | e :: es=>(if e.kind = kd then e.qty else 0) + sK kd es
theorem dO (kd:Int):∀ a b:List Ev,sK kd (a ++ b) = sK kd a + sK kd b
 | [],b=>by simp [sK]
 | e :: a,b=>by rw [List.cons_append,sK,sK,dO kd a b]; omega
def QtyOk (es:List Ev):Prop:=∀ e ∈ es,0 ≤ e.qty∧e.qty ≤ 1000000
theorem sK_none {kd:Int}:∀ {es:List Ev},(∀ e ∈ es,e.kind = 3)→kd ≠ 3→sK kd es = 0
 | [],_,_=>rfl
 | e :: es,h,hk=>by
  have G:=h e (by simp)
  rw [sK,if_neg (by omega),sK_none (fun x hx=>h x (by simp [hx])) hk]; rfl
theorem matL_sums {c:Cm} {id:Int}:∀ (n:Nat) (l:List Od) (left:Int) (ts:List Ev),GoodL l→0 ≤ left→left ≤ 1000000→(∀ e ∈ ts,e.kind = 3∧0 ≤ e.qty∧e.qty ≤ 1000000) →
  (matL c id n l left ts).2.1 + sK 3 (matL c id n l left ts).2.2 = left + sK 3 ts∧∀ e ∈ (matL c id n l left ts).2.2,e.kind = 3∧0 ≤ e.qty∧e.qty ≤ 1000000
 | 0,l,left,ts,h,h0,G,ht=>⟨rfl,ht⟩
 | n + 1,l,left,ts,h,h0,G,ht=>by
  rw [matL]
  by_cases hl:0 < left
  ·rw [if_pos hl]
   cases hf:aI l (othS c.s) with
   | none=>exact ⟨rfl,ht⟩
   | some o =>
    simp only
    by_cases hm:aN c o = true
    ·rw [if_pos hm]
     obtain ⟨uZ,_⟩:=cT hf
     obtain ⟨k,hk⟩:=List.getElem?_of_mem uZ
     have Z:=h.left o uZ
     rw [plc_at h.rise hk,Int.toNat_natCast]
     obtain ⟨e1,e2⟩:=matL_sums (c:=c) (id:=id) n (aB l k o (min left o.left)) (left - min left o.left) (ts ++ [trE id o.id (min left o.left) o.ticks]) (cG h hk (by omega) (by omega)).1 (by omega) (by omega) (fun e he=>by
      rcases List.mem_append.1 he with he | he
      ·exact ht e he
      ·rw [List.mem_singleton.1 he]
       exact ⟨rfl,by show 0 ≤ min left o.left; omega,by show min left o.left ≤ 1000000; omega⟩)
     refine ⟨?_,e2⟩
     rw [e1,dO]
     have:sK 3 [trE id o.id (min left o.left) o.ticks] = min left o.left:=by simp [sK,trE]
     rw [this]; omega
    ·rw [if_neg hm]; exact ⟨rfl,ht⟩
  ·rw [if_neg hl]; exact ⟨rfl,ht⟩
theorem stE_lenT {next:Int} {l:List Od} {c:Cm} (hg:GoodL l):(stE next l c).length ≤ 100:=by
 have hl:=hg.len
 rw [stE]
 split
 ·split
  ·have G:=dr (c:=c) (id:=next) 21 l c.q []
   rw [accE]
   simp only [yN,List.length_cons,List.length_nil] at G ⊢
   split <;> simp <;> omega
  ·split
   ·split <;> simp
   ·split
    ·simp
    ·have G:(l.filter dyB).length ≤ 20:=yL (List.length_filter_le _ _) hl
     simp only [List.length_cons,List.length_map]; omega
 ·simp
def TyOk (c:Cm) (g:List Ev):Prop :=
 ∃ e es,g = e :: es∧g.length ≤ 100∧(e.kind ≠ 1 ∨ (e.kind = 1∧QtyOk g∧1 ≤ c.q∧c.q ≤ 1000000∧sK 3 g + sK 4 g + sK 5 g = c.q∧(c.t = 5→sK 3 g ≤ 0)∧(c.t = 4→sK 3 g = c.q)∧(c.t = 2 ∨ c.t = 3→sK 4 g ≤ 0)∧(c.t = 1 ∨ c.t = 5→sK 5 g ≤ 0)))
theorem ty_acc {n:Int} {l:List Od} {c:Cm} (hg:GoodL l) (h0:refR n l c = 0) (hk:c.k = 1):TyOk c (stE n l c):=by
 have uO:stE n l c = accE c n (matL c n 21 l c.q []):=by rw [stE,if_pos h0,if_pos hk]
 rw [refR,if_pos hk] at h0
 split at h0
 ·rw [newR] at h0
  have O:betB c.q 1 1000000 = true:=by
   cases O:betB c.q 1 1000000
   ·exfalso
    revert h0
    rw [O]
    repeat (split; (intro h; cases h))
    intro _
    simp at *
   ·rfl
  have hq:1 ≤ c.q∧c.q ≤ 1000000:=by simpa [betB] using O
  have hm:matR n c (matL c n 21 l c.q []) = 0:=by
   revert h0
   repeat (split; (intro h; cases h))
   exact id
  obtain ⟨s1,s2⟩:=matL_sums (c:=c) (id:=n) 21 l c.q [] hg (by omega) hq.2 (by simp)
  obtain ⟨-,g1,g2⟩:=bR (c:=c) (id:=n) 21 l c.q [] hg (by omega) hq.2
  have xC:(stE n l c).length ≤ 100:=stE_lenT hg
  rw [uO] at xC ⊢
  generalize matL c n 21 l c.q [] = qt at s1 s2 g1 g2 hm xC ⊢
  have k4:sK 4 qt.2.2 = 0:=sK_none (fun e he=>(s2 e he).1) (by decide)
  have k5:sK 5 qt.2.2 = 0:=sK_none (fun e he=>(s2 e he).1) (by decide)
  rw [matR] at hm
  have hp:¬ (c.t = 5∧0 < qt.2.2.length):=fun h=>by rw [if_pos h] at hm; cases hm
  rw [if_neg hp] at hm
  have hf:¬ (c.t = 4∧0 < qt.2.1):=fun h=>by rw [if_pos h] at hm; cases hm
  have z0:sK 3 ([]:List Ev) = 0:=rfl
  have h5:c.t = 5→sK 3 qt.2.2 = 0:=fun h=>by
   have:qt.2.2 = []:=List.length_eq_zero_iff.1 (by omega)
   rw [this]; rfl
  rw [accE] at xC ⊢
  refine ⟨_,_,List.cons_append,xC,.inr ⟨rfl,?_,hq.1,hq.2,?_⟩⟩
  ·intro e he
   rcases List.mem_append.1 he with he | he
   ·rcases List.mem_cons.1 he with rfl | he
    ·exact ⟨by show (0:Int) ≤ 0; decide,by show (0:Int) ≤ 1000000; decide⟩
    ·exact (s2 e he).2
   ·split at he
    ·rw [List.mem_singleton.1 he]; exact ⟨g1,g2⟩
    ·cases he
  ·rw [dO,dO,dO]
   have a3:∀ (kd:Int),kd ≠ 1→sK kd (⟨1,⟨1,c.s,c.t,c.l,c.q,0,c.p,c.g⟩,n,0,0,0,0⟩ :: qt.2.2) = sK kd qt.2.2:=fun kd hkd=>by
    rw [sK,if_neg (fun e=>hkd e.symm),Int.zero_add]
   rw [a3 3 (by decide),a3 4 (by decide),a3 5 (by decide)]
   by_cases hl:0 < qt.2.1
   ·rw [if_pos hl]
    by_cases hr:aC c.t = true
    ·rw [if_pos hr]
     have hr':c.t = 1 ∨ c.t = 5:=by simpa [aC] using hr
     simp only [sK]
     simp
     omega
    ·rw [if_neg hr]
     have hr':¬ (c.t = 1 ∨ c.t = 5):=by simpa [aC] using hr
     simp only [sK]
     simp
     omega
   ·rw [if_neg hl]
    simp only [sK]
    omega
 ·cases h0
theorem ty_other {n:Int} {l:List Od} {c:Cm} (hg:GoodL l) (h:¬ (refR n l c = 0∧c.k = 1)):TyOk c (stE n l c):=by
 have xC:(stE n l c).length ≤ 100:=stE_lenT hg
 by_cases h0:refR n l c = 0
 ·have hk:c.k ≠ 1:=fun hk=>h ⟨h0,hk⟩
  have uO:stE n l c = if c.k = 2 then (match l[(plc l c.i).toNat]? with | some o=>[⟨6,zCm,c.i,0,o.left,0,0⟩] | none=>[]) else if c.k = 3 then [⟨7,zCm,c.i,0,c.q,0,0⟩] else ⟨8,zCm,0,0,((l.filter dyB).length:Nat),0,0⟩ :: (l.filter dyB).map expE:=by
   rw [stE,if_pos h0,if_neg hk]; rfl
  by_cases D:c.k = 2
  ·rw [if_pos D] at uO
   rw [refR,if_neg hk,if_pos D] at h0
   split at h0
   ·rw [idR] at h0
    rcases dp l c.i with hp | ⟨k,o,hp,Z⟩
    ·rw [if_pos (by omega)] at h0; cases h0
    ·rw [hp,Int.toNat_natCast,Z] at uO
     simp only at uO
     exact ⟨_,_,uO,xC,.inl (show (6:Int) ≠ 1 by decide)⟩
   ·cases h0
  ·rw [if_neg D] at uO
   by_cases h3:c.k = 3
   ·rw [if_pos h3] at uO
    exact ⟨_,_,uO,xC,.inl (show (7:Int) ≠ 1 by decide)⟩
   ·rw [if_neg h3] at uO
    exact ⟨_,_,uO,xC,.inl (show (8:Int) ≠ 1 by decide)⟩
 ·have uO:stE n l c = [⟨2,⟨c.k,c.s,c.t,c.l,c.q,c.i,c.p,cutB c.g⟩,0,0,0,0,refR n l c⟩]:=by rw [stE,if_neg h0]
  exact ⟨_,_,uO,xC,.inl (show (2:Int) ≠ 1 by decide)⟩
theorem ty_all {n:Int} {l:List Od} {c:Cm} (hg:GoodL l):TyOk c (stE n l c):=by
 by_cases h:refR n l c = 0∧c.k = 1
 ·exact ty_acc hg h.1 h.2
 ·exact ty_other hg h
theorem run_lenT (cs:List Cm):∀ k,k ≤ cs.length→(runS (cs.take k)).g.length = k:=by
 intro k
 induction k with
 | zero=>intro _; simp [runS]
 | succ k ih =>
  intro hk
  obtain ⟨c,hc⟩:∃ c,cs[k]? = some c:=⟨_,yF (by omega)⟩
  rw [cK cs hc]
  show ((runS (cs.take k)).g ++ [_]).length = k + 1
  rw [yN,ih (by omega)]; rfl
theorem run_group (cs:List Cm):∀ k,k ≤ cs.length→∀ i,i < k→∃ c,cs[i]? = some c∧(runS (cs.take k)).g[i]? = some (stE (runS (cs.take i)).n (runS (cs.take i)).l c):=by
 intro k
 induction k with
 | zero=>intro _ i hi; omega
 | succ k ih =>
  intro hk i hi
  obtain ⟨c,hc⟩:∃ c,cs[k]? = some c:=⟨_,yF (by omega)⟩
  have hl:=run_lenT cs k (by omega)
  rw [cK cs hc]
  by_cases h:i < k
  ·obtain ⟨d,G,D⟩:=ih (by omega) i h
   refine ⟨d,G,?_⟩
   show ((runS (cs.take k)).g ++ [_])[i]? = _
   rw [List.getElem?_append_left (by omega)]
   exact D
  ·obtain rfl:i = k:=by omega
   refine ⟨c,hc,?_⟩
   show ((runS (cs.take i)).g ++ [_])[i]? = _
   rw [List.getElem?_append_right (by omega),hl]
   simp
theorem types_ok (cs:List Cm) (h:cs.length ≤ 200) (i:Nat) (c:Cm) (g:List Ev) (hc:cs[i]? = some c) (hg:(rsF cs).g[i]? = some g):TyOk c g:=by
 have hi:=(yE.1 hc).1
 obtain ⟨d,G,D⟩:=run_group cs cs.length hb i hi
 rw [yX hb] at D
 have hr:(rsF cs).g = (runS cs).g:=by rw [rsF,if_pos h]
 rw [hr,D] at hg
 rw [hc] at G
 obtain rfl:=Option.some.inj G
 obtain rfl:=Option.some.inj hg
 exact ty_all (run_take cs h i (by omega)).1.good
theorem allR_of {next:Int}:∀ (l:List Od) (last:Int),(∀ o ∈ l,ordB o = true∧last < o.id∧o.id < next)→aK l→allR next last l = true
 | [],_,_,_=>rfl
 | a :: r,last,h,hr=>by
  obtain ⟨G,D,h3⟩:=h a (by simp)
  obtain ⟨p1,p2⟩:=List.pairwise_cons.1 hr
  rw [allR,G,decide_eq_true D,decide_eq_true h3,allR_of r a.id (fun o Z=>⟨(h o (by simp [Z])).1,p1 o Z,(h o (by simp [Z])).2.2⟩) p2]
  rfl
end Go.Proofs.YtbakanofkghmiaaGreat
