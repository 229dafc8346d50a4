/-
  Floats as words: which are no numbers, how two stand to each other by their words, what a float less itself is; plain facts, no program.
-/
import Derived.Test.YtbakanofkghmiaaGreatPj02
set_option linter.unusedVariables false
set_option maxHeartbeats 6400000
set_option maxRecDepth 100000
namespace Go.Proofs.YtbakanofkghmiaaGreat
open Go Ieee

theorem d_bin:double.binade = 4503599627370496:=by decide
theorem d_inf:double.infRung = 9218868437227405312:=by decide
theorem d_sw:double.signWeight = 9223372036854775808:=by decide
theorem d_lp:double.leastPlace = -1074:=by decide
theorem nan_iff (x:Nat):nanB x = true ↔ (double.read x).isNaN = true:=by
 constructor
 ·intro h
  by_cases hn:(double.read x).isNaN = true
  ·exact hn
  ·have:=datum_self _ hn
   have e:FloatKind.f64.format.order x x = some Ordering.eq:=this
   simp [nanB,e] at h
 ·intro h
  cases hx:double.read x with
  | nan s f =>
   have e:FloatKind.f64.format.order x x = none:=by
    show (double.read x).order (double.read x) = none
    rw [hx]; rfl
   simp [nanB,e]
  | infinity s=>rw [hx] at h; simp [Datum.isNaN] at h
  | number s m i=>rw [hx] at h; simp [Datum.isNaN] at h
theorem nan_rung (x:Nat):nanB x = true ↔ 9218868437227405312 < x % 9223372036854775808:=by
 rw [nan_iff]
 unfold Format.read
 simp only [d_bin,d_inf,d_sw,d_lp]
 split
 ·simp [Datum.isNaN]; omega
 ·split
  ·simp [Datum.isNaN]; omega
  ·split
   ·simp [Datum.isNaN]; omega
   ·simp [Datum.isNaN]; omega
theorem nan_drawn (t:Nat):nanB ((t % 2) * 2 ^ 63 + 0x7ff0000000000000 + 1 + (t / 2) % (2 ^ 52 - 1)) = true:=by
 rw [nan_rung]
 have z:t % 2 < 2:=Nat.mod_lt _ (by decide)
 have K:(t / 2) % (2 ^ 52 - 1) < 2 ^ 52 - 1:=Nat.mod_lt _ (by decide)
 rw [show (2:Nat) ^ 63 = 9223372036854775808 from rfl]
 rw [show (2:Nat) ^ 52 - 1 = 4503599627370495 from rfl] at *
 generalize (t / 2) % 4503599627370495 = b at *
 generalize t % 2 = a at *
 rcases (show a = 0 ∨ a = 1 by omega) with rfl | rfl <;> omega
end Go.Proofs.YtbakanofkghmiaaGreat
namespace Go.Proofs.YtbakanofkghmiaaGreat
open Go.RowKit Ieee
set_option linter.unusedVariables false

def prB (p:Nat):Bool:=!tkOk p || (decide (1 ≤ tk p) && decide (tk p ≤ 1000000))
theorem bi {p:Nat} (h:prB p = true):PrW p:=fun hk=>by
 rw [prB,hk] at h
 simpa using h
theorem prW_nan {x:Nat} (h:nanB x = true):PrW x:=fun hk=>by
 exfalso
 have z:=(nan_iff x).1 h
 have e:FloatKind.f64.format.order x 0 = none:=by
  show (double.read x).order (double.read 0) = none
  cases hx:double.read x with
  | nan s f=>rfl
  | infinity s=>rw [hx] at z; simp [Datum.isNaN] at z
  | number s m i=>rw [hx] at z; simp [Datum.isNaN] at z
 rw [tkOk,e] at hk
 simp at hk
theorem nanOf_prW (W:World):PrW (nanOf W):=by
 have h:nanOf W = (W.tape W.drawn (.nanBits .f64 0 0) % 2) * 2 ^ 63 + 0x7ff0000000000000 + 1 + (W.tape W.drawn (.nanBits .f64 0 0) / 2) % (2 ^ 52 - 1):=rfl
 rw [h]
 exact prW_nan (nan_drawn _)
theorem copysign_anyT (w:World):Calls Tryz.prog 164 #[yh 0,yh 13830554455654793216] w fun e w'=>∃ y:Nat,e = yk (yh y)∧PrW y∧w' = w:=by
 have z:=fbits
 have K:=frombitsS
 go_enter Tryz.func164,Tryz.ntmps164
 go_wp2_with fail
 go_ret
 exact ⟨_,rfl,bi (by kernel_rfl),rfl⟩
theorem float_rowT (k n y:Nat) (w:World) (t:TypeId) (h:k < 15) (hn:PrW n) (hy:PrW y) :
  ∃ h1:Nat,PrW h1∧(w.alloc (.cells #[yh 0,yh 9223372036854775808,yh n,yh 9218868437227405312,yh 18442240474082181120,yh 4598175219545276416,yh 4636737291354636288,yh 4636719699168591872,
   yh 4687829947429945344,yh 4687829956019879936,yh 4591870180066957722,yh 13830554455654793216,yh y,yh 9094988921128908188,yh 1] t)).cell? (yn w k) = some (yh h1):=by
 rcases (show k = 0 ∨ k = 1 ∨ k = 2 ∨ k = 3 ∨ k = 4 ∨ k = 5 ∨ k = 6 ∨ k = 7 ∨ k = 8 ∨ k = 9 ∨ k = 10 ∨ k = 11 ∨ k = 12 ∨ k = 13 ∨ k = 14 by omega) with rfl | rfl | rfl | rfl | rfl | rfl | rfl | rfl | rfl | rfl | rfl | rfl | rfl | rfl | rfl
 all_goals first | exact ⟨_,hn,cell_of_row _ _ _ _ _ (0,0) (heap_alloc_new w _)⟩ | exact ⟨_,hy,cell_of_row _ _ _ _ _ (0,0) (heap_alloc_new w _)⟩ | exact ⟨_,bi (by kernel_rfl),cell_of_row _ _ _ _ _ (0,0) (heap_alloc_new w _)⟩
theorem float_drawnT (B:Nat) (v:Value) (l:List Int) (m:Int) (w:World) (h:Src B w v l m) (hm:m ≤ 900000000) :
  Calls Tryz.prog 142 #[I B 0] w fun e w'=>∃ y:Nat,e = yk (yh y)∧PrW y∧ax B w v l (m + 3) w':=by
 have HS:=Q h
 have hB:=src_lt h
 clear h
 have e1:=neg_zero
 have e2:=one_zero
 have e3:=less_zero
 have e4:=zero_zero
 go_enter Tryz.func142,Tryz.ntmps142
 go_wp2_with (first | (go_at_call 163; refine (zero_any _).mono ?_; rintro e w' ⟨rfl,rfl⟩) | (go_at_call 164; refine (copysign_anyT _).mono ?_; rintro e w' ⟨y0,rfl,js,rfl⟩))
 have hn:=nanOf_prW w'
 generalize nanOf w' = n0 at *
 refine (aM B v l m 15 _ (dy (cA (bN (M HS)) _) 1).1 (by omega) (by omega) (by omega)).mono ?_
 rintro e w1 ⟨y,rfl,hy0',kM,hE⟩
 obtain ⟨k,rfl⟩:=Int.eq_ofNat_of_zero_le hy0'
 obtain ⟨h1,uw,hz⟩:=float_rowT k n0 y0 w' 41 (by omega) hn js
 have HE:=Q (show ax B w' v l (m + 3) w1 from ⟨hE.1,zQ (zQ (bG w' _ _) (gr_drewN _ 1 _)) hE.2⟩)
 have hc:=hE.2.cell (show (World.drewN _ 1).cell? _ = _ from hz) (by simp; omega)
 clear hE hz e1 e2 e3 e4
 go_wp2_with fail
 go_ret
 exact ⟨_,rfl,uw,M HE⟩
end Go.Proofs.YtbakanofkghmiaaGreat
namespace Go.Proofs.YtbakanofkghmiaaGreat
open Go.RowKit
def DrOk (c:Cm):Prop:=c.g.size ≤ 20∧PrW c.p
theorem rawCmd_drawn (B:Nat) (v:Value) (l:List Int) (m:Int) (w:World) (h:Src B w v l m) (hm:m ≤ 800000000) :
  Calls Tryz.prog 103 #[I B 0] w fun e w'=>∃ c:Cm,e = yk (.agg c.vs.toArray)∧DrOk c∧ax B w v l (m + 30) w':=by
 have HV:=Q (src_far h)
 have hB:=src_lt h
 have jQ:Hid (DrC B w.heap.size w v l m (w.alloc (E (yu 0 0 0 0 0 0 0 ⟨#[]⟩).toArray 43))):=⟨cA (bN h) _,(aT w (yu 0 0 0 0 0 0 0 ⟨#[]⟩) 43).t⟩
 have hs0:w.heap.size < (w.alloc (E (yu 0 0 0 0 0 0 0 ⟨#[]⟩).toArray 43)).heap.size:=by simp
 clear h
 go_enter Tryz.func103,Tryz.ntmps103
 go_wp2_with fail
 generalize (w.alloc (E (yu 0 0 0 0 0 0 0 ⟨#[]⟩).toArray 43)) = W0 at jQ hs0 ⊢
 refine (aM B v l (m) 6 W0 (M jQ).e.1 (by omega) (by omega) (by omega)).mono ?_
 rintro e W1 ⟨y1,rfl,-,-,hE⟩
 have qm:=Q (bp (M jQ) hB hE hs0)
 have xz:w.heap.size < W1.heap.size:=yG hs0 hE.2.size
 clear hE jQ hs0
 go_wp2_with fail
 refine (aM B v l (m + 3) 4 W1 (M qm).e.1 (by omega) (by omega) (by omega)).mono ?_
 rintro e W2 ⟨y2,rfl,-,-,hE⟩
 have oZ:=Q (bp (M qm) hB hE xz)
 have xY:w.heap.size < W2.heap.size:=yG xz hE.2.size
 clear hE qm xz
 go_wp2_with fail
 refine (aM B v l (m + 3 + 3) 7 W2 (M oZ).e.1 (by omega) (by omega) (by omega)).mono ?_
 rintro e W3 ⟨y3,rfl,-,-,hE⟩
 have HD3:=Q (bp (M oZ) hB hE xY)
 have kp:w.heap.size < W3.heap.size:=yG xY hE.2.size
 clear hE oZ xY
 go_wp2_with fail
 refine (aM B v l (m + 3 + 3 + 3) 3 W3 (M HD3).e.1 (by omega) (by omega) (by omega)).mono ?_
 rintro e W4 ⟨y4,rfl,-,-,hE⟩
 have HD4:=Q (bp (M HD3) hB hE kp)
 have hs4:w.heap.size < W4.heap.size:=yG kp hE.2.size
 clear hE HD3 kp
 go_wp2_with fail
 refine (number_drawn B v l (m + 3 + 3 + 3 + 3) W4 (M HD4).e.1 (by omega)).mono ?_
 rintro e W5 ⟨y5,rfl,-,-,hE⟩
 have HD5:=Q (bp (M HD4) hB hE hs4)
 have hs5:w.heap.size < W5.heap.size:=yG hs4 hE.2.size
 clear hE HD4 hs4
 go_wp2_with fail
 refine (aM B v l (m + 3 + 3 + 3 + 3 + 6) 3 W5 (M HD5).e.1 (by omega) (by omega) (by omega)).mono ?_
 rintro e W6 ⟨y6,rfl,-,-,hE⟩
 have HD6:=Q (bp (M HD5) hB hE hs5)
 have hs6:w.heap.size < W6.heap.size:=yG hs5 hE.2.size
 clear hE HD5 hs5
 go_wp2_with fail
 refine (float_drawnT B v l (m + 3 + 3 + 3 + 3 + 6 + 3) W6 (M HD6).e.1 (by omega)).mono ?_
 rintro e W7 ⟨y7,rfl,hy7,hE⟩
 have HD7:=Q (bp (M HD6) hB hE hs6)
 have hs7:w.heap.size < W7.heap.size:=yG hs6 hE.2.size
 clear hE HD6 hs6
 go_wp2_with fail
 refine (tag_drawn B v l (m + 3 + 3 + 3 + 3 + 6 + 3 + 3) W7 (M HD7).e.1 (by omega)).mono ?_
 rintro e W8 ⟨y8,rfl,hy8,hE⟩
 have HD8:=Q (bp (M HD7) hB hE hs7)
 have hs8:w.heap.size < W8.heap.size:=yG hs7 hE.2.size
 clear hE HD7 hs7
 have jf:=Q (M HD8).t
 have uk:Hid ((W8.setCells w.heap.size 0 (yu y1 y2 y3 y4 y5 y6 y7 y8)).rangeAt w.heap.size 0 (yu y1 y2 y3 y4 y5 y6 y7 y8)):=yU _ _ _ _ (M HD8).t
 have qQ:Hid (ax B w v l (m + 3 + 3 + 3 + 3 + 6 + 3 + 3 + 3) (W8.setCells w.heap.size 0 (yu y1 y2 y3 y4 y5 y6 y7 y8))):=cQ (M HV) (M HD8).e hB tg _
 try dsimp only
 rename_i K1 pw K2 qZ
 refine qZ _ _ ?_
 have xu:=Q pw
 clear pw qZ
 refine wpList_step fun K3 og=>?_
 have jI:=Q og
 clear og
 rw [if_pos (by rfl)];unfold Oper.wp;go_simp
 refine M jI _ _ ?_
 clear jI
 refine wpList_store_mid rfl 43 (.tmp 2) (.tmp 19) rfl w.heap.size 0 (yu y1 y2 y3 y4 y5 y6 y7 y8).toArray rfl rfl (M jf) (by kernel_rfl) (by simp [Value.oneCell']) ?_
 change wpList _ _ _ _ _ (W8.setCells w.heap.size 0 (yu y1 y2 y3 y4 y5 y6 y7 y8))
 generalize W8.setCells w.heap.size 0 (yu y1 y2 y3 y4 y5 y6 y7 y8) = WF at uk qQ ⊢
 have pw:=M xu
 go_wp2_with fail
 have d0:=M uk 0 _ rfl
 have d1:=M uk 1 _ rfl
 have d2:=M uk 2 _ rfl
 have d3:=M uk 3 _ rfl
 have d4:=M uk 4 _ rfl
 have d5:=M uk 5 _ rfl
 have d6:=M uk 6 _ rfl
 have d7:=M uk 7 _ rfl
 simp only [Nat.zero_add] at d0 d1 d2 d3 d4 d5 d6 d7
 refine bodyPost_ret (by simp [results,Tryz.results103,go_sem,d0,d1,d2,d3,d4,d5,d6,d7]; try rfl) rfl ?_
 exact ⟨⟨y1,y2,y3,y4,y5,y6,y7,y8⟩,rfl,⟨hy8,hy7⟩,bu (M qQ).1 (by omega),(M qQ).2⟩
structure Od where
  id:Int
  side:Int
  ticks:Int
  left:Int
  life:Int
  tag:ByteArray
structure Nd where
  side:Int
  ticks:Int
  qty:Int
  count:Int
  be:Nat
  wo:Nat
  el:Nat
  yo:Nat
structure Qo where
  od:Od
  yg:Nat
structure TS where
  root:Nat
  lc:Nat
  oc:Nat
  nd:Nat→Nd
  qo:Nat→Qo
inductive Tr where
  | nil:Tr
  | node (h:Nat) (l r:Tr):Tr
def zOd:Od:=⟨0,0,0,0,0,⟨#[]⟩⟩
def zNd:Nd:=⟨0,0,0,0,0,0,0,0⟩
def zQo:Qo:=⟨zOd,0⟩
def zTS:TS:=⟨0,0,0,fun _=>zNd,fun _=>zQo⟩
def bt:Bool→Int→Int→Prop
  | true,a,b=>b < a
  | false,a,b=>a < b
theorem cn (s:Bool) (a:Int):¬ bt s a a:=by cases s <;> simp [bt]
theorem bt_trans {s:Bool} {a b c:Int} (z:bt s a b) (K:bt s b c):bt s a c:=by cases s <;> simp only [bt] at * <;> omega
theorem bt_total (s:Bool) (a b:Int):bt s a b ∨ a = b ∨ bt s b a:=by cases s <;> simp only [bt] <;> omega
theorem bt_asymm {s:Bool} {a b:Int} (z:bt s a b):¬ bt s b a:=by cases s <;> simp only [bt] at * <;> omega
instance (s:Bool) (a b:Int):Decidable (bt s a b):=by cases s <;> (unfold bt; infer_instance)
def Tr.hs:Tr→List Nat
  | .nil=>[]
  | .node h l r=>l.hs ++ h :: r.hs
def Rep (nd:Nat→Nd):Tr→Nat→Prop
  | .nil,v=>v = 0
  | .node h l r,v=>v = h∧0 < h∧Rep nd l (nd h).be∧Rep nd r (nd h).wo
theorem cY {nd nd':Nat→Nd}:∀ {t:Tr} {v:Nat},(∀ h ∈ t.hs,(nd' h).be = (nd h).be∧(nd' h).wo = (nd h).wo)→Rep nd t v→Rep nd' t v
  | .nil,_,_,h=>h
  | .node h l r,v,hc,⟨z,K,h3,h4⟩=>by
    have hh:=hc h (by simp [Tr.hs])
    refine ⟨z,K,?_,?_⟩
    · rw [hh.1]; exact cY (fun a ha=>hc a (by simp [Tr.hs,ha])) h3
    · rw [hh.2]; exact cY (fun a ha=>hc a (by simp [Tr.hs,ha])) h4
theorem rep_nil {nd:Nat→Nd} {t:Tr} (h:Rep nd t 0):t = .nil:=by
  cases t with
  | nil=>rfl
  | node a l r=>obtain ⟨z,K,_⟩:=h; omega
theorem rep_node {nd:Nat→Nd} {t:Tr} {v:Nat} (h:Rep nd t v) (hv:v ≠ 0):∃ l r,t = .node v l r∧Rep nd l (nd v).be∧Rep nd r (nd v).wo:=by
  cases t with
  | nil=>exact absurd h hv
  | node a l r=>obtain ⟨rfl,_,h3,h4⟩:=h; exact ⟨l,r,rfl,h3,h4⟩
inductive Cur where
  | root:Cur
  | be (h:Nat):Cur
  | wo (h:Nat):Cur
def TS.rd (S:TS):Cur→Nat
  | .root=>S.root
  | .be h=>(S.nd h).be
  | .wo h=>(S.nd h).wo
def upd {α:Type} (f:Nat→α) (i:Nat) (x:α):Nat→α:=fun j=>if j = i then x else f j
theorem zp {α:Type} (f:Nat→α) (i:Nat) (x:α):upd f i x i = x:=by simp [upd]
theorem zr {α:Type} (f:Nat→α) {i j:Nat} (x:α) (h:j ≠ i):upd f i x j = f j:=by simp [upd,h]
def TS.wr (S:TS) (n:Nat):Cur→TS
  | .root=>{ S with root:=n }
  | .be h=>{ S with nd:=upd S.nd h { S.nd h with be:=n } }
  | .wo h=>{ S with nd:=upd S.nd h { S.nd h with wo:=n } }
abbrev Ctx:=List (Bool × Nat × Tr)
def plug:Ctx→Tr→Tr
  | [],s=>s
  | (true,h,r) :: c,s=>plug c (.node h s r)
  | (false,h,l) :: c,s=>plug c (.node h l s)
def zW:Ctx→Cur
  | []=>.root
  | (true,h,_) :: _=>.be h
  | (false,h,_) :: _=>.wo h
def cl:Ctx→List Nat
  | []=>[]
  | (true,_,_) :: c=>cl c
  | (false,h,l) :: c=>cl c ++ (l.hs ++ [h])
def cr:Ctx→List Nat
  | []=>[]
  | (true,h,r) :: c=>h :: r.hs ++ cr c
  | (false,_,_) :: c=>cr c
theorem cT:∀ (c:Ctx) (s:Tr),(plug c s).hs = cl c ++ (s.hs ++ cr c)
  | [],s=>by simp [plug,cl,cr]
  | (true,h,r) :: c,s=>by rw [plug,cT c]; simp [Tr.hs,cl,cr]
  | (false,h,l) :: c,s=>by rw [plug,cT c]; simp [Tr.hs,cl,cr]
def RepC (nd:Nat→Nd):Ctx→Nat→Nat→Prop
  | [],root,v=>v = root
  | (true,h,r) :: c,root,v=>v = (nd h).be∧0 < h∧Rep nd r (nd h).wo∧RepC nd c root h
  | (false,h,l) :: c,root,v=>v = (nd h).wo∧0 < h∧Rep nd l (nd h).be∧RepC nd c root h
theorem rep_plug {nd:Nat→Nd} {root:Nat}:∀ (c:Ctx) (s:Tr) (v:Nat),RepC nd c root v→Rep nd s v→Rep nd (plug c s) root
  | [],s,v,h,hs=>by rw [← h]; exact hs
  | (true,a,r) :: c,s,v,⟨z,K,h3,h4⟩,hs=>rep_plug c (.node a s r) a h4 ⟨rfl,K,z ▸ hs,h3⟩
  | (false,a,l) :: c,s,v,⟨z,K,h3,h4⟩,hs=>rep_plug c (.node a l s) a h4 ⟨rfl,K,h3,z ▸ hs⟩
theorem dN {nd nd':Nat→Nd}:∀ {c:Ctx} {root v:Nat},(∀ h ∈ cl c ++ cr c,(nd' h).be = (nd h).be∧(nd' h).wo = (nd h).wo)→RepC nd c root v→RepC nd' c root v
  | [],_,_,_,h=>h
  | (true,a,r) :: c,root,v,hc,⟨z,K,h3,h4⟩=>by
    have ha:=hc a (by simp [cr])
    refine ⟨by rw [ha.1]; exact z,K,by rw [ha.2]; exact cY (fun b hb=>hc b (by simp [cr,hb])) h3,dN (fun b hb=>hc b ?_) h4⟩
    simp [cl,cr] at hb ⊢; rcases hb with hb | hb <;> simp [hb]
  | (false,a,l) :: c,root,v,hc,⟨z,K,h3,h4⟩=>by
    have ha:=hc a (by simp [cl])
    refine ⟨by rw [ha.2]; exact z,K,by rw [ha.1]; exact cY (fun b hb=>hc b (by simp [cl,hb])) h3,dN (fun b hb=>hc b ?_) h4⟩
    simp [cl,cr] at hb ⊢; rcases hb with hb | hb <;> simp [hb]
theorem rep_wr {S:TS} {c:Ctx} {v n:Nat} (h:RepC S.nd c S.root v) (hd:(cl c ++ cr c).Nodup):RepC (S.wr n (zW c)).nd c (S.wr n (zW c)).root n:=by
  match c,h,hd with
  | [],h,_=>rfl
  | (true,a,r) :: c,⟨z,K,h3,h4⟩,hd =>
    simp only [cl,cr] at hd
    rw [List.nodup_append] at hd
    obtain ⟨d1,d2,d3⟩:=hd
    simp only [List.cons_append,List.nodup_cons,List.mem_append,not_or] at d2
    have xA:∀ b,b ∈ r.hs ∨ b ∈ cl c ∨ b ∈ cr c→b ≠ a:=by
      rintro b (hb | hb | hb) rfl
      · exact d2.1.1 hb
      · exact d3 b hb b (by simp) rfl
      · exact d2.1.2 hb
    simp only [zW,TS.wr]
    refine ⟨by simp [upd],K,?_,?_⟩
    · simp only [zp]
      exact cY (fun b hb=>by rw [zr _ _ (xA b (.inl hb))]; exact ⟨rfl,rfl⟩) h3
    · exact dN (fun b hb=>by rw [zr _ _ (xA b (.inr (by simpa using hb)))]; exact ⟨rfl,rfl⟩) h4
  | (false,a,l) :: c,⟨z,K,h3,h4⟩,hd =>
    simp only [cl,cr] at hd
    rw [List.nodup_append] at hd
    obtain ⟨d1,d2,d3⟩:=hd
    rw [List.nodup_append] at d1
    obtain ⟨d4,d5,d6⟩:=d1
    rw [List.nodup_append] at d5
    obtain ⟨d7,d8,d9⟩:=d5
    have xA:∀ b,b ∈ l.hs ∨ b ∈ cl c ∨ b ∈ cr c→b ≠ a:=by
      rintro b (hb | hb | hb) rfl
      · exact d9 b hb b (by simp) rfl
      · exact d6 b hb b (by simp) rfl
      · exact d3 b (by simp) b hb rfl
    simp only [zW,TS.wr]
    refine ⟨by simp [upd],K,?_,?_⟩
    · simp only [zp]
      exact cY (fun b hb=>by rw [zr _ _ (xA b (.inl hb))]; exact ⟨rfl,rfl⟩) h3
    · exact dN (fun b hb=>by rw [zr _ _ (xA b (.inr (by simpa using hb)))]; exact ⟨rfl,rfl⟩) h4
structure TI (s:Bool) (S:TS) (t:Tr):Prop where
  rep:Rep S.nd t S.root
  nodup:t.hs.Nodup
  range:∀ h ∈ t.hs,1 ≤ h∧h ≤ S.lc
  len:t.hs.length = S.lc
  sorted:t.hs.Pairwise (fun a b=>bt s (S.nd a).ticks (S.nd b).ticks)
  fresh:∀ h,S.lc < h→S.nd h = zNd
structure Way (s:Bool) (S:TS) (t:Tr) (k:Int) (c:Ctx) (u:Tr):Prop where
  plug:t = plug c u
  repC:RepC S.nd c S.root (S.rd (zW c))
  rep:Rep S.nd u (S.rd (zW c))
  left:∀ a ∈ cl c,bt s (S.nd a).ticks k
  right:∀ a ∈ cr c,bt s k (S.nd a).ticks
theorem way_start {s:Bool} {S:TS} {t:Tr} (h:TI s S t) (k:Int):Way s S t k [] t :=
  ⟨rfl,rfl,h.rep,by simp [cl],by simp [cr]⟩
theorem way_pair {s:Bool} {S:TS} {a:Nat} {l r:Tr} {c:Ctx} (h:(plug c (.node a l r)).hs.Pairwise (fun a b=>bt s (S.nd a).ticks (S.nd b).ticks)) :
    (∀ b ∈ l.hs,bt s (S.nd b).ticks (S.nd a).ticks)∧(∀ b ∈ r.hs,bt s (S.nd a).ticks (S.nd b).ticks):=by
  rw [cT,Tr.hs] at h
  have K:=(List.pairwise_append.1 (List.pairwise_append.1 h).2.1).1
  obtain ⟨_,h3,h4⟩:=List.pairwise_append.1 K
  exact ⟨fun b hb=>h4 b hb a (by simp),(List.pairwise_cons.1 h3).1⟩
theorem way_be {s:Bool} {S:TS} {t:Tr} {k:Int} {c:Ctx} {u:Tr} {a:Nat} (hi:TI s S t) (h:Way s S t k c u) (ha:S.rd (zW c) = a) (h0:a ≠ 0) (hk:bt s k (S.nd a).ticks) :
    ∃ l r,u = .node a l r∧Way s S t k ((true,a,r) :: c) l:=by
  obtain ⟨z,K,h3,h4,h5⟩:=h
  rw [ha] at K h3
  obtain ⟨l,r,rfl,h6,h7⟩:=rep_node h3 h0
  have hp:=way_pair (by rw [← z]; exact hi.sorted)
  refine ⟨l,r,rfl,z,⟨rfl,by omega,h7,K⟩,h6,h4,fun b hb=>?_⟩
  simp only [cr,List.cons_append,List.mem_cons,List.mem_append] at hb
  rcases hb with rfl | hb | hb
  · exact hk
  · exact bt_trans hk (hp.2 b hb)
  · exact h5 b hb
theorem way_wo {s:Bool} {S:TS} {t:Tr} {k:Int} {c:Ctx} {u:Tr} {a:Nat} (hi:TI s S t) (h:Way s S t k c u) (ha:S.rd (zW c) = a) (h0:a ≠ 0) (hk:bt s (S.nd a).ticks k) :
    ∃ l r,u = .node a l r∧Way s S t k ((false,a,l) :: c) r:=by
  obtain ⟨z,K,h3,h4,h5⟩:=h
  rw [ha] at K h3
  obtain ⟨l,r,rfl,h6,h7⟩:=rep_node h3 h0
  have hp:=way_pair (by rw [← z]; exact hi.sorted)
  refine ⟨l,r,rfl,z,⟨rfl,by omega,h6,K⟩,h7,fun b hb=>?_,h5⟩
  simp only [cl,List.mem_append,List.mem_cons,List.not_mem_nil,or_false] at hb
  rcases hb with hb | hb | rfl
  · exact h4 b hb
  · exact bt_trans (hp.1 b hb) hk
  · exact hk
theorem way_at {s:Bool} {S:TS} {t:Tr} {k:Int} {c:Ctx} {u:Tr} {a:Nat} (h:Way s S t k c u) (ha:S.rd (zW c) = a) (h0:a ≠ 0):a ∈ t.hs:=by
  obtain ⟨z,K,h3,_⟩:=h
  rw [ha] at h3
  obtain ⟨l,r,rfl,_⟩:=rep_node h3 h0
  rw [z,cT]; simp [Tr.hs]
def TS.grow (S:TS) (cu:Cur) (sd k:Int):TS :=
  let S1:=S.wr (S.lc + 1) cu
  { S1 with lc:=S.lc + 1,nd:=upd S1.nd (S.lc + 1) { S1.nd (S.lc + 1) with side:=sd,ticks:=k,qty:=0,count:=0 } }
theorem eu (S:TS) (n:Nat) (cu:Cur) (a:Nat):((S.wr n cu).nd a).ticks = (S.nd a).ticks:=by
  cases cu with
  | root=>rfl
  | be h=>simp only [TS.wr,upd]; split <;> simp_all
  | wo h=>simp only [TS.wr,upd]; split <;> simp_all
theorem wr_nd_out (S:TS) (n:Nat) (c:Ctx) (a:Nat) (ha:a ∉ cl c ++ cr c):(S.wr n (zW c)).nd a = S.nd a:=by
  match c,ha with
  | [],_=>rfl
  | (true,b,r) :: c,ha=>simp only [zW,TS.wr]; exact zr _ _ (fun e=>ha (by simp [cl,cr,e]))
  | (false,b,l) :: c,ha=>simp only [zW,TS.wr]; exact zr _ _ (fun e=>ha (by simp [cl,cr,e]))
theorem wr_same (S:TS) (n:Nat) (cu:Cur):(S.wr n cu).lc = S.lc∧(S.wr n cu).oc = S.oc∧(S.wr n cu).qo = S.qo:=by
  cases cu <;> exact ⟨rfl,rfl,rfl⟩
theorem wr_nd_rest (S:TS) (n:Nat) (cu:Cur) (a:Nat):((S.wr n cu).nd a).side = (S.nd a).side∧((S.wr n cu).nd a).qty = (S.nd a).qty∧((S.wr n cu).nd a).count = (S.nd a).count∧((S.wr n cu).nd a).el = (S.nd a).el∧((S.wr n cu).nd a).yo = (S.nd a).yo:=by
  cases cu with
  | root=>exact ⟨rfl,rfl,rfl,rfl,rfl⟩
  | be h=>simp only [TS.wr,upd]; split <;> simp_all
  | wo h=>simp only [TS.wr,upd]; split <;> simp_all
theorem ti_grow {s:Bool} {S:TS} {t:Tr} {k sd:Int} {c:Ctx} {u:Tr} (hi:TI s S t) (h:Way s S t k c u) (h0:S.rd (zW c) = 0) :
    TI s (S.grow (zW c) sd k) (plug c (.node (S.lc + 1) .nil .nil))∧t.hs = cl c ++ cr c∧(∀ a ∈ t.hs,(S.nd a).ticks ≠ k):=by
  obtain ⟨z,K,h3,h4,h5⟩:=h
  rw [h0] at h3
  obtain rfl:=rep_nil h3
  have ht:t.hs = cl c ++ cr c:=by rw [z,cT]; simp [Tr.hs]
  have kI:S.lc + 1 ∉ cl c ++ cr c:=by
    rw [← ht]; intro hm; have:=(hi.range _ hm).2; omega
  have qL:=hi.nodup
  rw [ht] at qL
  have hz:(S.grow (zW c) sd k).nd (S.lc + 1) = { zNd with side:=sd,ticks:=k }:=by
    show upd _ _ _ _ = _
    rw [zp,wr_nd_out S _ c _ kI,hi.fresh _ (by omega)]
    rfl
  have hrc:=rep_wr (n:=S.lc + 1) K qL
  have hag:∀ b ∈ cl c ++ cr c,(S.grow (zW c) sd k).nd b = (S.wr (S.lc + 1) (zW c)).nd b:=fun b hb=>zr _ _ (fun e=>kI (e ▸ hb))
  have kH:(plug c (.node (S.lc + 1) .nil .nil)).hs = cl c ++ (S.lc + 1) :: cr c:=by rw [cT]; simp [Tr.hs]
  have kr:∀ b ∈ cl c ++ cr c,((S.grow (zW c) sd k).nd b).ticks = (S.nd b).ticks:=fun b hb=>by rw [hag b hb,eu]
  have oV:=hi.sorted
  rw [ht] at oV
  refine ⟨⟨?_,?_,?_,?_,?_,?_⟩,ht,?_⟩
  · refine rep_plug c _ (S.lc + 1) (dN (fun b hb=>by rw [hag b hb]; exact ⟨rfl,rfl⟩) hrc) ⟨rfl,by omega,?_,?_⟩ <;> rw [hz] <;> rfl
  · rw [kH]
    rw [List.nodup_append] at qL ⊢
    obtain ⟨d1,d2,d3⟩:=qL
    refine ⟨d1,List.nodup_cons.2 ⟨fun hm=>kI (by simp [hm]),d2⟩,?_⟩
    intro a ha b hb
    rcases List.mem_cons.1 hb with rfl | hb
    · rintro rfl; exact kI (by simp [ha])
    · exact d3 a ha b hb
  · rw [kH]
    intro a ha
    have vp:(S.grow (zW c) sd k).lc = S.lc + 1:=rfl
    rw [vp]
    simp only [List.mem_append,List.mem_cons] at ha
    rcases ha with ha | rfl | ha
    · have:=hi.range a (by rw [ht]; simp [ha]); omega
    · omega
    · have:=hi.range a (by rw [ht]; simp [ha]); omega
  · rw [kH]
    have:=hi.len
    rw [ht] at this
    show _ = S.lc + 1
    simp at this ⊢; omega
  · rw [kH,List.pairwise_append]
    rw [List.pairwise_append] at oV
    obtain ⟨d1,d2,d3⟩:=oV
    refine ⟨d1.imp_of_mem fun {a b} ha hb hab=>?_,List.pairwise_cons.2 ⟨fun b hb=>?_,d2.imp_of_mem fun {a b} ha hb hab=>?_⟩,fun a ha b hb=>?_⟩
    · rw [kr a (by simp [ha]),kr b (by simp [hb])]; exact hab
    · rw [hz,kr b (by simp [hb])]; exact h5 b hb
    · rw [kr a (by simp [ha]),kr b (by simp [hb])]; exact hab
    · rw [kr a (by simp [ha])]
      rcases List.mem_cons.1 hb with rfl | hb
      · rw [hz]; exact h4 a ha
      · rw [kr b (by simp [hb])]; exact d3 a ha b hb
  · intro h hh
    have hh':S.lc + 1 < h:=hh
    show upd _ _ _ _ = _
    rw [zr _ _ (by omega),wr_nd_out S _ c _ (by rw [← ht]; intro hm; have:=(hi.range _ hm).2; omega),hi.fresh _ (by omega)]
  · intro a ha
    rw [ht,List.mem_append] at ha
    rcases ha with ha | ha
    · intro e; have:=h4 a ha; rw [e] at this; exact cn _ _ this
    · intro e; have:=h5 a ha; rw [e] at this; exact cn _ _ this
end Go.Proofs.YtbakanofkghmiaaGreat
