/-
  Rows of rows of events in the laws: their size, and their copying; proved by walking the laws' own helpers.
-/
import Derived.Test.YtopjoogdpjaocaaGreatTj47
import Derived.Laws.Cover2
set_option linter.unusedVariables false
set_option maxHeartbeats 6400000
set_option maxRecDepth 100000
namespace Go.Proofs.YtopjoogdpjaocaaGreat
open Go.RowKit
theorem isEvents_below {w w':World} {a:Option Addr} {len cap:Nat} (h:zaV w a len cap) (hb:Below w.heap.size w w'):zaV w' a len cap:=by
 refine ⟨h.1,fun hl=>?_⟩
 obtain ⟨l,h1,h2,h3⟩:=h.2 hl
 exact ⟨l,h1,zl h2 hb (Nat.le_refl _),h3⟩
theorem szEv_is (a:Option Addr) (len cap:Nat) (w:World) (x:Int) (hx0:0 ≤ x) (hx1:x ≤ 1048576) (h:zaV w a len cap) :
  Calls Tryz.prog 10 #[.slice a len cap,.int .i64 x] w fun e w'=>∃ y:Int,e = .returned (.int .i64 y)∧y ≤ 1048576∧(0 ≤ y→len ≤ 1048576)∧Below w.heap.size w w':=by
 by_cases hl:(len:Int) ≤ x
 ·obtain ⟨l,rfl,h2,h3⟩:=h.2 (by omega)
  refine (szEventS_at _ l w h2 x hx0 hx1 hl (fun c hc=>(h3 c hc).c.g)).mono ?_
  rintro e w' ⟨y,h4,h5,h6⟩
  exact ⟨y,h4,h5,fun _=>by omega,h6⟩
 ·refine (szEventS_far a len cap w x hx0 hx1 (by omega) h.1).mono ?_
  rintro e w' ⟨h4,rfl⟩
  exact ⟨-1,h4,by omega,fun h=>by omega,Below.refl _ _⟩
set_option maxRecDepth 100000 in
set_option maxHeartbeats 400000 in
theorem szGs_any (v:Value) (l:List Gc) (w:World) (hr:RdR Gc.vs 1 w v l) (hl:l.length ≤ 1048576) (hi:∀ c ∈ l,zaV w c.a c.len c.cap) :
  Calls Tryz.prog 4 #[v,.int .i64 1048576] w fun e w'=>∃ y:Int,e = .returned (.int .i64 y)∧(0 ≤ y→∀ c ∈ l,c.len ≤ 1048576)∧Below w.heap.size w w':=by
 obtain ⟨a,cap,rfl,_,hc⟩:=hr
 have hcell:∀ (k:Nat) (c:Gc),l[k]? = some c→∃ b off,a = some ⟨b,off,none⟩∧b < w.heap.size∧w.cell? ⟨b,off + k,none⟩ = some (.slice c.a c.len c.cap):=by
  intro k c hk
  obtain ⟨b,off,h1,h2,h3⟩:=hc (by intro h; rw [h] at hk; simp at hk)
  exact ⟨b,off,h1,h2,by have:=h3 k c hk 0 _ rfl; simpa [Gc.v] using this⟩
 have HC:=hide hcell
 have HI:=hide hi
 clear hcell hc hi
 have hl':¬ (1048576 - (l.length:Int) < 0):=by omega
 go_enter Tryz.func4,Tryz.ntmps4
 go_wp2_with fail
 go_loopw [1,5] (fun xv i wr=>∃ (x:Int) (k:Nat),xv = .int .i64 x∧0 ≤ x∧x ≤ 1048576∧k ≤ l.length∧i = .int .i64 k∧Hid (∀ (j:Nat) (c:Gc),j < k→l[j]? = some c→c.len ≤ 1048576)∧Below w.heap.size w wr) (fun _ i _=>l.length - (intOf i).toNat)
 case atStart=>exact ⟨_,0,rfl,by omega,by omega,Nat.zero_le _,rfl,hide (fun j c h=>by omega),Below.refl _ _⟩
 case round =>
  obtain ⟨x,k,rfl,hy2,hy3,hk,rfl,HS,hbel⟩:=hrel
  have HB:=hide hbel
  clear hbel
  by_cases hlt:k < l.length
  ·obtain ⟨c,hkc⟩:∃ c,l[k]? = some c:=⟨_,List.getElem?_eq_getElem hlt⟩
   obtain ⟨b,off,rfl,hb,hcl⟩:=za HC k c hkc
   have HIE:=hide (isEvents_below (za HI c (List.mem_of_getElem? hkc)) (za HB))
   have HKC:=hide hkc
   have g0:=((za HB).cell (p:=⟨b,off + k,none⟩) hb).trans hcl
   have hlt':(k:Int) < l.length:=by omega
   obtain ⟨ca,cn,cc⟩:=c
   simp only at g0 HIE
   clear hkc hcl hb
   go_wp2_with fail
   refine (szEv_is ca cn cc wr x hy2 hy3 (za HIE)).mono ?_
   rintro e w2 ⟨y,rfl,hy1,hyl,hb2⟩
   have HB2:=hide ((za HB).trans (hb2.mono (za HB).size))
   have HYL:=hide hyl
   clear hb2 hyl
   by_cases hy:y < 0
   ·go_wp2_with fail
    go_ret
    exact ⟨_,rfl,fun h=>by omega,za HB2⟩
   ·go_wp2_with fail
    go_roundw
    case rel =>
     refine ⟨y,k + 1,rfl,by omega,by omega,by omega,by go_num,hide (fun j c hj hc=>?_),za HB2⟩
     by_cases hjk:j < k
     ·exact za HS j c hjk hc
     ·obtain rfl:j = k:=by omega
      rw [za HKC] at hc
      cases hc
      exact za HYL (by omega)
    case measure=>simp [intOf]; omega
  ·go_wp2_with fail
   go_ret
   refine ⟨_,rfl,fun _ c hc=>?_,za HB⟩
   obtain ⟨j,hj⟩:=List.getElem?_of_mem hc
   exact za HS j c (by have:=(List.getElem?_eq_some_iff.1 hj).1; omega) hj
theorem szGs_far (a:Option Addr) (len cap:Nat) (w:World) (hl:1048576 < len) (hm:len ≤ maxLen) :
  Calls Tryz.prog 4 #[.slice a len cap,.int .i64 1048576] w fun e w'=>e = .returned (.int .i64 (-1))∧w' = w:=by
 unfold maxLen at hm
 have hl':1048576 - (len:Int) < 0:=by omega
 go_enter Tryz.func4,Tryz.ntmps4
 go_wp2_with fail
 go_ret
 exact ⟨rfl,rfl⟩
def one1 (v:Value):List Value:=[v]
theorem ownR_setB {α:Type} {f:α→List Value} {sz b o:Nat} {w:World} {v:Value} {l:List α} {vs:List Value} (h:OwnR f sz (b + 1) w v l):OwnR f sz (b + 1) (w.setCells b o vs) v l:=by
 obtain ⟨a,cap,rfl,hl,h⟩:=h
 refine ⟨a,cap,rfl,hl,fun hne=>?_⟩
 obtain ⟨g,rfl,h0,h1,h2,h3⟩:=h hne
 exact ⟨g,rfl,h0,by rw [zS]; exact h1,fun i c hc=>World.rangeAt_setCells_apart (h2 i c hc) _ _ _ (.inl (by omega)),World.there_setCells h3 _ _ _⟩
set_option maxRecDepth 100000 in
set_option maxHeartbeats 1600000 in
theorem toGs_any (v:Value) (gs:List (List Ev)) (w:World) (hr:RdG w v gs) :
  Calls Tryz.prog 6 #[v] w fun e w'=>∃ v',e = .returned v'∧RdG w' v' gs∧Below w.heap.size w w':=by
 obtain ⟨a,cap,rfl,hl,hca⟩:=hr
 obtain ⟨i0,hi,hz0,hz1,hz2⟩:=info_parts infoEvS
 have hcell:∀ (k:Nat) (es:List Ev),gs[k]? = some es→∃ b off ga gc,a = some ⟨b,off,none⟩∧b < w.heap.size∧w.cell? ⟨b,off + k,none⟩ = some (.slice ga es.length gc)∧RdR Ev.vs 14 w (.slice ga es.length gc) es:=by
  intro k es hk
  obtain ⟨b,off,h1,h2,h3⟩:=hca (by intro h; rw [h] at hk; simp at hk)
  obtain ⟨g,h4,h5⟩:=h3 k es hk
  obtain ⟨ga,gc,rfl,_⟩:=id h5
  exact ⟨b,off,ga,gc,h1,h2,h4,h5⟩
 have HC:=hide hcell
 clear hcell hca
 go_enter Tryz.func6,Tryz.ntmps6
 go_wp2_with (at_make; go_must (refine wpList_make_full _ rfl _ _ 28 rfl w.heap.size 36 i0 _ 1 Tryz.underlying28 hi hz0 hz1 _ _ _ _ gs.length rfl rfl rfl rfl (by rw [hz2]; omega) (by unfold maxLen; omega) (Nat.le_refl _) ?_); intro w1 hown hgrow)
 have HA:=hide (fill_made (f:=one1) hown hgrow)
 clear hown hgrow hi hz0 hz1 hz2
 go_loopw [4] (fun i wr=>∃ (k:Nat) (vs:List Value),k ≤ gs.length∧i = .int .i64 k∧vs.length = k∧FillR one1 1 gs.length w.heap.size w wr vs∧∀ (j:Nat) (v:Value) (es:List Ev),vs[j]? = some v→gs[j]? = some es→OwnR Ev.vs 14 (w.heap.size + 1) wr v es) (fun i _=>gs.length - (intOf i).toNat)
 case atStart=>exact ⟨0,[],Nat.zero_le _,rfl,rfl,za HA,fun j v es h=>by simp at h⟩
 case round =>
  obtain ⟨k,vs,hk,rfl,hvk,harr,hea⟩:=hrel
  have HF:=hide harr
  have HE:=hide hea
  have HV:=hide hvk
  clear harr HA hea hvk
  by_cases hlt:k < gs.length
  ·obtain ⟨es,hes⟩:∃ es,gs[k]? = some es:=⟨_,List.getElem?_eq_getElem hlt⟩
   obtain ⟨b,off,ga,gc,rfl,hb,hcl,hre⟩:=za HC k es hes
   have g0:=((za HF).2.2.2.2.cell (p:=⟨b,off + k,none⟩) hb).trans hcl
   have HRE:=hide (zl hre (za HF).2.2.2.2 (Nat.le_refl _))
   have HES:=hide hes
   have hlt':(k:Int) < gs.length:=by omega
   clear hes hcl hb hre
   go_wp2_with fail
   refine (toEventS_any _ es wr (za HRE)).mono ?_
   rintro e w2 ⟨v2,rfl,ho2,hb2⟩
   have HF2:=hide (fill_below (za HF) hb2 (Nat.le_refl _))
   have HE2:Hid (∀ (j:Nat) (v:Value) (es:List Ev),vs[j]? = some v→gs[j]? = some es→OwnR Ev.vs 14 (w.heap.size + 1) w2 v es):=hide (fun j v es h h'=>ownR_below (za HE j v es h h') hb2 (Nat.le_refl _))
   have HO2:Hid (OwnR Ev.vs 14 (w.heap.size + 1) w2 v2 es):=hide (by
    obtain ⟨a1,c1,e1,h1,h2⟩:=ho2
    refine ⟨a1,c1,e1,h1,fun hne=>?_⟩
    obtain ⟨g,h3,h4,h5⟩:=h2 hne
    exact ⟨g,h3,by have:=(za HF).1; omega,h5⟩)
   obtain ⟨a2,c2,rfl,-⟩:=ho2
   clear hb2 HE HF g0
   have ht1:=fill_there (za HF2) hlt
   obtain ⟨x0,y0,z0⟩:=zaG ht1 0 (by omega)
   rw [Nat.add_zero,Nat.mul_one] at y0 z0
   clear ht1
   go_wp2_with fail
   go_roundw
   case rel =>
    have h:=fill_step (.slice a2 es.length c2:Value) (za HF2) (by rw [za HV]; exact hlt) (fun _=>rfl)
    have e1:w2.setCells w.heap.size k (one1 (.slice a2 es.length c2)) = w2.setCell ⟨w.heap.size,k,none⟩ (.slice a2 es.length c2):=rfl
    rw [za HV,Nat.mul_one,e1] at h
    refine ⟨k + 1,vs ++ [.slice a2 es.length c2],by omega,by go_num,by rw [List.length_append,za HV]; rfl,h,fun j v es' hv he=>?_⟩
    rw [← e1]
    refine ownR_setB (o:=k) (vs:=one1 (.slice a2 es.length c2)) ?_
    by_cases hj:j < vs.length
    ·rw [List.getElem?_append_left hj] at hv
     exact za HE2 j v es' hv he
    ·have hj2:=(List.getElem?_eq_some_iff.1 hv).1
     rw [List.length_append] at hj2
     simp only [List.length_cons,List.length_nil] at hj2
     obtain rfl:j = vs.length:=by omega
     rw [List.getElem?_append_right (Nat.le_refl _),Nat.sub_self] at hv
     cases hv
     rw [za HV,za HES] at he
     cases he
     exact za HO2
   case measure=>simp [intOf]; omega
  ·go_wp2_with fail
   go_ret
   refine ⟨_,rfl,⟨_,_,rfl,hl,fun _=>⟨w.heap.size,0,rfl,(za HF).1,fun i es hi=>?_⟩⟩,(za HF).2.2.2.2⟩
   have hil:=(List.getElem?_eq_some_iff.1 hi).1
   obtain ⟨g,hg⟩:∃ g,vs[i]? = some g:=⟨_,List.getElem?_eq_getElem (by rw [za HV]; omega)⟩
   refine ⟨g,?_,zcp (za HE i g es hg hi)⟩
   have:=(za HF).2.2.1 i g hg 0 _ rfl
   simpa using this


section
variable {α:Type} (f:α→List Value) (sz:Nat)
variable {f sz}
end
section
variable {α:Type} {f:α→List Value} {sz:Nat}
end
theorem zero_read:FloatKind.f64.format.read 0 = .number false 0 FloatKind.f64.format.leastPlace:=by decide
theorem one_read:∃ m j,FloatKind.f64.format.read 4607182418800017408 = .number false m j∧m ≠ 0:=⟨_,_,rfl,by decide⟩
theorem zero_mag (s:Bool) (m a b:Nat) (h:Ieee.signed s m a = Ieee.signed false 0 b):m = 0:=by
 have h0:Ieee.signed false 0 b = 0:=by simp [Ieee.signed]
 rw [h0] at h
 have h2:m <<< a = 0:=by
  cases s
  ·have h':((m <<< a:Nat):Int) = 0:=h
   omega
  ·have h':-((m <<< a:Nat):Int) = 0:=h
   omega
 rw [Nat.shiftLeft_eq] at h2
 have:=Nat.two_pow_pos a
 rcases Nat.mul_eq_zero.1 h2 with h | h
 ·exact h
 ·omega
theorem div_zero (x:Nat) (h:FloatKind.f64.format.order x 0 = some Ordering.eq):∃ r,FloatKind.f64.format.div 4607182418800017408 x = some r:=by
 obtain ⟨m1,j1,h1,hm1⟩:=one_read
 unfold Ieee.Format.order at h
 rw [zero_read] at h
 unfold Ieee.Format.div
 rw [h1]
 cases hx:FloatKind.f64.format.read x with
 | nan s f=>rw [hx] at h; simp [Ieee.Datum.order] at h
 | infinity s=>rw [hx] at h; cases s <;> simp [Ieee.Datum.order] at h
 | number s m i =>
  rw [hx] at h
  simp only [Ieee.Datum.order,Option.some.injEq] at h
  have hm:=zero_mag s m _ _ (Std.LawfulEqCmp.eq_of_compare h)
  subst hm
  exact ⟨FloatKind.f64.format.write (.infinity s),by simp [Ieee.Datum.quotient,hm1]⟩
set_option maxRecDepth 100000 in
set_option maxHeartbeats 400000 in
theorem sameFloat_any (x:Nat) (w:World) :
  Calls Tryz.prog 79 #[.float .f64 x,.float .f64 x] w fun e w'=>e = .returned (.bool true)∧w' = w:=by
 cases hn:nanB x with
 | true =>
  have h':(FloatKind.f64.format.order x x != some Ordering.eq) = true:=hn
  clear hn
  go_enter Tryz.func79,Tryz.ntmps79
  go_wp2
  go_ret
  exact ⟨rfl,rfl⟩
 | false =>
  have h':(FloatKind.f64.format.order x x != some Ordering.eq) = false:=hn
  have h2:FloatKind.f64.format.order x x = some Ordering.eq:=by simpa using h'
  clear hn
  by_cases hz:FloatKind.f64.format.order x 0 = some Ordering.eq
  ·obtain ⟨r,hr⟩:=div_zero x hz
   have hq:∀ W,(binOp .quo 37 (.float .f64 4607182418800017408) (.float .f64 x)).run Tryz.prog W = .ok (.float .f64 r) W:=fun W=>by simp [binOp,Op.floatArith,hr]
   have hz':(FloatKind.f64.format.order x 0 == some Ordering.eq) = true:=by rw [hz]; rfl
   clear hz hr
   go_enter Tryz.func79,Tryz.ntmps79
   go_wp2
   all_goals go_ret
   all_goals exact ⟨zy (by simp),rfl⟩
  ·have hz':(FloatKind.f64.format.order x 0 == some Ordering.eq) = false:=by simpa using hz
   clear hz
   go_enter Tryz.func79,Tryz.ntmps79
   go_wp2
   go_ret
   exact ⟨zy (by simp),rfl⟩
set_option maxHeartbeats 400000 in
theorem eqCmd_same (c:Cm) (w:World) :
  Calls Tryz.prog 55 #[.agg #[.int .i64 c.k,.int .i64 c.s,.int .i64 c.t,.int .i64 c.l,.int .i64 c.q,.int .i64 c.i,.float .f64 c.p,.string c.g],.agg #[.int .i64 c.k,.int .i64 c.s,.int .i64 c.t,.int .i64 c.l,.int .i64 c.q,.int .i64 c.i,.float .f64 c.p,.string c.g]] w fun e w' =>
   e = .returned (.bool true)∧Below w.heap.size w w':=by
 obtain ⟨k,s,t,l,q,i,p,g⟩:=c
 simp only
 go_enter Tryz.func55,Tryz.ntmps55
 go_wp2_with (go_at_call 79; refine (sameFloat_any _ _).mono ?_; rintro e w' ⟨rfl,rfl⟩)
 go_returns
 refine ⟨rfl,?_⟩
 go_grown
set_option maxRecDepth 100000 in
set_option maxHeartbeats 1600000 in
theorem eqEvent_same (e:Ev) (w:World) :
  Calls Tryz.prog 31 #[evV e,evV e] w fun x w'=>x = .returned (.bool true)∧Below w.heap.size w w':=by
 obtain ⟨kind,⟨k,s,t,l,q,i,p,g⟩,id,other,qty,price,reason⟩:=e
 unfold evV
 have HE:=hide (fun W=>eqCmd_same ⟨k,s,t,l,q,i,p,g⟩ W)
 simp only at *
 have hs1:(w.alloc (Obj.cells #[.int .i64 kind,.int .i64 k,.int .i64 s,.int .i64 t,.int .i64 l,.int .i64 q,.int .i64 i,.float .f64 p,.string g,.int .i64 id,.int .i64 other,.int .i64 qty,.int .i64 price,.int .i64 reason] 43)).heap.size = w.heap.size + 1:=zbF _ _
 have hs2:((w.alloc (Obj.cells #[.int .i64 kind,.int .i64 k,.int .i64 s,.int .i64 t,.int .i64 l,.int .i64 q,.int .i64 i,.float .f64 p,.string g,.int .i64 id,.int .i64 other,.int .i64 qty,.int .i64 price,.int .i64 reason] 43)).alloc (Obj.cells #[.int .i64 kind,.int .i64 k,.int .i64 s,.int .i64 t,.int .i64 l,.int .i64 q,.int .i64 i,.float .f64 p,.string g,.int .i64 id,.int .i64 other,.int .i64 qty,.int .i64 price,.int .i64 reason] 43)).heap.size = w.heap.size + 1 + 1:=by rw [zbF,hs1]
 have b1:Below (w.heap.size + 1) (w.alloc (Obj.cells #[.int .i64 kind,.int .i64 k,.int .i64 s,.int .i64 t,.int .i64 l,.int .i64 q,.int .i64 i,.float .f64 p,.string g,.int .i64 id,.int .i64 other,.int .i64 qty,.int .i64 price,.int .i64 reason] 43)) ((w.alloc (Obj.cells #[.int .i64 kind,.int .i64 k,.int .i64 s,.int .i64 t,.int .i64 l,.int .i64 q,.int .i64 i,.float .f64 p,.string g,.int .i64 id,.int .i64 other,.int .i64 qty,.int .i64 price,.int .i64 reason] 43)).alloc (Obj.cells #[.int .i64 kind,.int .i64 k,.int .i64 s,.int .i64 t,.int .i64 l,.int .i64 q,.int .i64 i,.float .f64 p,.string g,.int .i64 id,.int .i64 other,.int .i64 qty,.int .i64 price,.int .i64 reason] 43)):=(Below.refl _ _).alloc (by rw [hs1]; omega) _
 have r1:=zb (zaS w [.int .i64 kind,.int .i64 k,.int .i64 s,.int .i64 t,.int .i64 l,.int .i64 q,.int .i64 i,.float .f64 p,.string g,.int .i64 id,.int .i64 other,.int .i64 qty,.int .i64 price,.int .i64 reason] 43) b1 (by omega)
 have r2:=zaS (w.alloc (Obj.cells #[.int .i64 kind,.int .i64 k,.int .i64 s,.int .i64 t,.int .i64 l,.int .i64 q,.int .i64 i,.float .f64 p,.string g,.int .i64 id,.int .i64 other,.int .i64 qty,.int .i64 price,.int .i64 reason] 43)) [.int .i64 kind,.int .i64 k,.int .i64 s,.int .i64 t,.int .i64 l,.int .i64 q,.int .i64 i,.float .f64 p,.string g,.int .i64 id,.int .i64 other,.int .i64 qty,.int .i64 price,.int .i64 reason] 43
 rw [hs1] at r2
 have HB:Hid (Below w.heap.size w ((w.alloc (Obj.cells #[.int .i64 kind,.int .i64 k,.int .i64 s,.int .i64 t,.int .i64 l,.int .i64 q,.int .i64 i,.float .f64 p,.string g,.int .i64 id,.int .i64 other,.int .i64 qty,.int .i64 price,.int .i64 reason] 43)).alloc (Obj.cells #[.int .i64 kind,.int .i64 k,.int .i64 s,.int .i64 t,.int .i64 l,.int .i64 q,.int .i64 i,.float .f64 p,.string g,.int .i64 id,.int .i64 other,.int .i64 qty,.int .i64 price,.int .i64 reason] 43))):=((Below.refl _ _).alloc (Nat.le_refl _) _).alloc (by rw [hs1]; omega) _
 have HX:Hid (_∧_∧_):=⟨r1,r2,hs2⟩
 clear r1 r2 b1 hs1 hs2
 go_enter Tryz.func31,Tryz.ntmps31
 go_wp2_with fail
 generalize ((w.alloc (Obj.cells #[.int .i64 kind,.int .i64 k,.int .i64 s,.int .i64 t,.int .i64 l,.int .i64 q,.int .i64 i,.float .f64 p,.string g,.int .i64 id,.int .i64 other,.int .i64 qty,.int .i64 price,.int .i64 reason] 43)).alloc (Obj.cells #[.int .i64 kind,.int .i64 k,.int .i64 s,.int .i64 t,.int .i64 l,.int .i64 q,.int .i64 i,.float .f64 p,.string g,.int .i64 id,.int .i64 other,.int .i64 qty,.int .i64 price,.int .i64 reason] 43)) = W at HX HB ⊢
 obtain ⟨hr1,hr2,hsW⟩:=za HX
 refine (za HE _).mono ?_
 rintro e w2 ⟨rfl,hb2⟩
 have HB2:=hide ((za HB).trans (hb2.mono (za HB).size))
 have q1:=zb hr1 hb2 (by omega)
 have q2:=zb hr2 hb2 (by omega)
 have x9:=q1 9 _ rfl
 have x10:=q1 10 _ rfl
 have x11:=q1 11 _ rfl
 have x12:=q1 12 _ rfl
 have x13:=q1 13 _ rfl
 have y9:=q2 9 _ rfl
 have y10:=q2 10 _ rfl
 have y11:=q2 11 _ rfl
 have y12:=q2 12 _ rfl
 have y13:=q2 13 _ rfl
 clear hr1 hr2 q1 q2 hb2 HX HB hsW
 go_wp2_with fail
 go_returns
 exact ⟨rfl,za HB2⟩

theorem Tryz.infoCmd:(Tryz.prog.info? 39).map (fun i=>(i.zero,i.size,i.bytes)) = some (some (.agg #[.int .i64 0,.int .i64 0,.int .i64 0,.int .i64 0,.int .i64 0,.int .i64 0,.float .f64 0,.string ⟨#[]⟩]),8,72):=by kernel_rfl
theorem Tryz.sizeCmd:(Tryz.prog.info? 39).map (·.size) = some 8:=by kernel_rfl

set_option maxRecDepth 100000 in
set_option maxHeartbeats 1600000 in
theorem eqEventS_same (va vb:Value) (l:List Ev) (w:World) (ha:RdR Ev.vs 14 w va l) (hb:RdR Ev.vs 14 w vb l) :
  Calls Tryz.prog 20 #[va,vb] w fun e w'=>e = .returned (.bool true)∧Below w.heap.size w w':=by
 obtain ⟨aa,ca,rfl,hl,hca⟩:=ha
 obtain ⟨ab,cb,rfl,_,hcb⟩:=hb
 have hcell:∀ (k:Nat) (c:Ev),l[k]? = some c→∃ b off b' off',aa = some ⟨b,off,none⟩∧ab = some ⟨b',off',none⟩∧b < w.heap.size∧b' < w.heap.size∧w.rangeAt b (off + k * 14) c.vs∧w.rangeAt b' (off' + k * 14) c.vs:=by
  intro k c hk
  have hne:l ≠ []:=by intro h; rw [h] at hk; simp at hk
  obtain ⟨b,off,h1,h2,h3⟩:=hca hne
  obtain ⟨b',off',h1',h2',h3'⟩:=hcb hne
  exact ⟨b,off,b',off',h1,h1',h2,h2',h3 k c hk,h3' k c hk⟩
 have HC:=hide hcell
 clear hcell hca hcb
 go_enter Tryz.func20,Tryz.ntmps20
 go_wp2_with fail
 go_loopw [5] (fun i wr=>∃ k:Nat,k ≤ l.length∧i = .int .i64 k∧Below w.heap.size w wr) (fun i _=>l.length - (intOf i).toNat)
 case atStart=>exact ⟨0,Nat.zero_le _,rfl,Below.refl _ _⟩
 case round =>
  obtain ⟨k,hk,rfl,hbel⟩:=hrel
  have HB:=hide hbel
  clear hbel
  by_cases hlt:k < l.length
  ·obtain ⟨c,hkc⟩:∃ c,l[k]? = some c:=⟨_,List.getElem?_eq_getElem hlt⟩
   obtain ⟨b,off,b',off',rfl,rfl,hb,hb',hcl,hcl'⟩:=za HC k c hkc
   obtain ⟨g0,g1,g2,g3,g4,g5,g6,g7,g8,g9,g10,g11,g12,g13⟩:=zal (zb hcl (za HB) hb)
   obtain ⟨e0,e1,e2,e3,e4,e5,e6,e7,e8,e9,e10,e11,e12,e13⟩:=zal (zb hcl' (za HB) hb')
   have hlt':(k:Int) < l.length:=by omega
   clear hkc hcl hcl' hb hb'
   go_wp2_with fail
   go_region_with (go_at_call 31; refine (eqEvent_same c _).mono ?_; rintro e w2 ⟨rfl,hb2⟩; have HB2:=hide ((za HB).drew.trans (hb2.mono (za HB).drew.size)); clear hb2)
   go_wp2_with fail
   go_roundw
   case rel=>exact ⟨k + 1,by omega,by go_num,za HB2⟩
   case measure=>simp [intOf]; omega
   all_goals exact ⟨⟨k + 1,by omega,by go_num,za HB2⟩,by simp [intOf]; omega⟩
  ·go_wp2_with fail
   go_ret
   exact ⟨rfl,za HB⟩



set_option maxRecDepth 100000 in
set_option maxHeartbeats 800000 in
theorem eqGs_same (va vb:Value) (gl:List (List Ev)) (w:World) (ha:RdG w va gl) (hb:RdG w vb gl) :
  Calls Tryz.prog 9 #[va,vb] w fun e w'=>e = .returned (.bool true)∧Below w.heap.size w w':=by
 obtain ⟨aa,ca,rfl,hl,hca⟩:=ha
 obtain ⟨ab,cb,rfl,_,hcb⟩:=hb
 have hcell:∀ (k:Nat) (es:List Ev),gl[k]? = some es→∃ b off b' off' ga gc ga' gc',aa = some ⟨b,off,none⟩∧ab = some ⟨b',off',none⟩∧b < w.heap.size∧b' < w.heap.size∧w.cell? ⟨b,off + k,none⟩ = some (.slice ga es.length gc)∧w.cell? ⟨b',off' + k,none⟩ = some (.slice ga' es.length gc')∧RdR Ev.vs 14 w (.slice ga es.length gc) es∧RdR Ev.vs 14 w (.slice ga' es.length gc') es:=by
  intro k es hk
  have hne:gl ≠ []:=by intro h; rw [h] at hk; simp at hk
  obtain ⟨b,off,h1,h2,h3⟩:=hca hne
  obtain ⟨b',off',h1',h2',h3'⟩:=hcb hne
  obtain ⟨g,h4,h5⟩:=h3 k es hk
  obtain ⟨g',h4',h5'⟩:=h3' k es hk
  obtain ⟨ga,gc,rfl,_⟩:=id h5
  obtain ⟨ga',gc',rfl,_⟩:=id h5'
  exact ⟨b,off,b',off',ga,gc,ga',gc',h1,h1',h2,h2',h4,h4',h5,h5'⟩
 have HC:=hide hcell
 clear hcell hca hcb
 go_enter Tryz.func9,Tryz.ntmps9
 go_wp2_with fail
 go_loopw [5] (fun i wr=>∃ k:Nat,k ≤ gl.length∧i = .int .i64 k∧Below w.heap.size w wr) (fun i _=>gl.length - (intOf i).toNat)
 case atStart=>exact ⟨0,Nat.zero_le _,rfl,Below.refl _ _⟩
 case round =>
  obtain ⟨k,hk,rfl,hbel⟩:=hrel
  have HB:=hide hbel
  clear hbel
  by_cases hlt:k < gl.length
  ·obtain ⟨es,hkc⟩:∃ es,gl[k]? = some es:=⟨_,List.getElem?_eq_getElem hlt⟩
   obtain ⟨b,off,b',off',ga,gc,ga',gc',rfl,rfl,hb,hb',hcl,hcl',hr,hr'⟩:=za HC k es hkc
   have g0:=((za HB).cell (p:=⟨b,off + k,none⟩) hb).trans hcl
   have g1:=((za HB).cell (p:=⟨b',off' + k,none⟩) hb').trans hcl'
   have HRA:=hide (zl hr (za HB).drew (Nat.le_refl _))
   have HRB:=hide (zl hr' (za HB).drew (Nat.le_refl _))
   have hlt':(k:Int) < gl.length:=by omega
   clear hkc hcl hcl' hb hb' hr hr'
   go_wp2_with fail
   go_region_with (go_at_call 20; refine (eqEventS_same _ _ es _ (za HRA) (za HRB)).mono ?_; rintro e w2 ⟨rfl,hb2⟩; have HB2:=hide ((za HB).drew.trans (hb2.mono (za HB).drew.size)); clear hb2)
   go_wp2_with fail
   go_roundw
   case rel=>exact ⟨k + 1,by omega,by go_num,za HB2⟩
   case measure=>simp [intOf]; omega
   all_goals exact ⟨⟨k + 1,by omega,by go_num,za HB2⟩,by simp [intOf]; omega⟩
  ·go_wp2_with fail
   go_ret
   exact ⟨rfl,za HB⟩
set_option maxRecDepth 100000 in
theorem eqTot_same (t:Tot) (w:World):Calls Tryz.prog 8 #[.agg #[.int .i64 t.gr,.int .i64 t.ac,.int .i64 t.rf,.int .i64 t.tr,.int .i64 t.vo,.int .i64 t.no,.int .i64 t.li,.int .i64 t.le],.agg #[.int .i64 t.gr,.int .i64 t.ac,.int .i64 t.rf,.int .i64 t.tr,.int .i64 t.vo,.int .i64 t.no,.int .i64 t.li,.int .i64 t.le]] w fun e w'=>e = .returned (.bool true)∧Below w.heap.size w w':=by
 obtain ⟨a,b,c,d,e,f,g,h⟩:=t
 simp only
 go_enter Tryz.func8,Tryz.ntmps8
 go_wp2_with fail
 go_ret
 exact ⟨rfl,by go_grown⟩
end Go.Proofs.YtopjoogdpjaocaaGreat
