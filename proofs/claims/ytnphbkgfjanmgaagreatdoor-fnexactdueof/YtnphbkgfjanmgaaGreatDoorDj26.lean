/-
  The rules of a group on its way, as the model holds an event against them, are the program's. No function walked.
-/
import Derived.Test.YtnphbkgfjanmgaaGreatDoorDj25
set_option linter.unusedVariables false
set_option maxHeartbeats 6400000
set_option maxRecDepth 100000
namespace Go.Proofs.YtnphbkgfjanmgaaGreatDoor
open Go.RowKit
structure MR (g:Gr) (t:Od) (kd:Int) (dy:List Od):Prop where
 left:t.left = g.tk.left
 same:g.tk.left ≠ 0→t = g.tk
 side:t.side = 0 ∨ t.side = 1 ∨ t.side = 2
 kd:g.bg = 1→kd = g.cm.t
 dy:dy = if g.bg = 8 then g.l.filter isDy else []
def lftM (kd:Int) (t:Od):Du:=⟨if aW kd = true then 4 else 5,t.id,0,t.left,0⟩
def dueM (l:List Od) (t:Od) (kd:Int) (dy:List Od):Du :=
 if t.left ≠ 0 then (match aR l (othS t.side) with
  | some o=>if bL t.side t.ticks o = true then ⟨3,t.id,o.id,min t.left o.left,o.ticks⟩ else lftM kd t
  | none=>lftM kd t)
 else match dy with
  | o :: _=>⟨9,o.id,0,o.left,0⟩
  | []=>zDu
theorem lft_eq (c:Cm) (t:Od):lftM c.t t = lftD c t:=by
 unfold lftM lftD
 split <;> rfl
theorem filter_find {l:List Od}:(match l.filter isDy with | o :: _=>(⟨9,o.id,0,o.left,0⟩:Du) | []=>zDu) = dayD l:=by
 unfold dayD
 rw [← List.head?_filter]
 cases l.filter isDy <;> rfl
theorem dueM_eq {g:Gr} {t:Od} {kd:Int} {dy:List Od} (h:GI g) (hm:MR g t kd dy):dueM g.l t kd dy = dueG g:=by
 unfold dueM dueG
 by_cases N:g.bg = 1
 ·rw [if_pos N]
  obtain ⟨a1,a2,a3⟩:=h.acc N
  unfold takD
  by_cases h0:g.tk.left = 0
  ·rw [if_pos h0,if_neg (by rw [hm.left]; simpa using h0),hm.dy,if_neg (by omega)]
  ·obtain ⟨b1,b2,_⟩:=a3 h0
   rw [if_neg h0,if_pos (by rw [hm.left]; exact h0),hm.same h0,hm.kd N,lft_eq,b1,b2]
   cases aR g.l (othS g.cm.s) with
   | none=>rfl
   | some o=>simp only [cross_meet a2]
 ·rw [if_neg N]
  have h0:=h.free N
  rw [if_neg (by rw [hm.left]; simpa using h0),hm.dy]
  by_cases h8:g.bg = 8
  ·rw [if_pos h8,if_pos h8]
   exact filter_find
  ·rw [if_neg h8,if_neg h8]
def zO (k:Int):Bool:=(k == 1) || ((k == 2) || ((k == 6) || ((k == 7) || (k == 8))))
def fstM (nx:Int) (l:List Od) (e:Ev):Int :=
 if zO e.kind = false then 3
 else if e.kind = 2 then (if refR nx l (aQ e) = 0 ∨ refR nx l (aQ e) ≠ e.reason then 4 else 0)
 else if refR nx l (aQ e) ≠ 0 then 5
 else if e.kind = 1 then (if e.id ≠ nx then 6 else 0)
 else if e.kind = 6 then (if e.qty ≠ leftAt l e.id then 7 else 0)
 else if e.kind = 8 then (if e.qty ≠ ((dys l).length:Int) then 7 else 0)
 else 0
def latM (d:Du) (e:Ev):Int :=
 if zO e.kind = true then 3
 else if d.kind = 0 then 8
 else if d.kind = 9 ∨ e.kind = 9 then (if aS e d = true then 0 else 14)
 else if d.kind ≠ 3 then (if e.kind = 3 then 9 else if aS e d = true then 0 else 13)
 else if e.kind ≠ 3 then 13
 else if e.id ≠ d.id then 9
 else if e.other ≠ d.other then 10
 else if e.price ≠ d.price then 11
 else if e.qty ≠ d.qty then 12
 else 0
def ruleM (g:Gr) (e:Ev):Int:=if g.bg = 0 then fstM g.nx g.l e else latM (dueG g) e
theorem dysF_len:∀ (l:List Od) (k:Nat),(dysF l k).length = (l.filter isDy).length
 | [],_=>rfl
 | o :: r,k=>by
  rw [dysF,List.filter_cons]
  by_cases h:o.life = 1
  ·rw [if_pos h,if_pos (by simpa [isDy] using h),List.length_cons,List.length_cons,dysF_len r (k + 1)]
  ·rw [if_neg h,if_neg (by simpa [isDy] using h),dysF_len r (k + 1)]
theorem ruleM_eq {g:Gr} {e:Ev} (hk:1 ≤ e.kind∧e.kind ≤ 9):ruleM g e = zF g e:=by
 have hd:((dys g.l).length:Int) = ((g.l.filter isDy).length:Int):=by rw [dys,dysF_len]
 unfold ruleM
 by_cases h0:g.bg = 0
 ·rw [if_pos h0]
  unfold fstM zF aP dueR
  rw [hd]
  rcases (show e.kind = 1 ∨ e.kind = 2 ∨ e.kind = 3 ∨ e.kind = 4 ∨ e.kind = 5 ∨ e.kind = 6 ∨ e.kind = 7 ∨ e.kind = 8 ∨ e.kind = 9 by omega) with k | k | k | k | k | k | k | k | k
  ·simp [k,zO,h0]
   split <;> simp_all
  ·simp [k,zO,h0,aQ]
   split <;> split <;> simp_all
  ·simp [k,zO,h0]
  ·simp [k,zO,h0]
  ·simp [k,zO,h0]
  ·simp [k,zO,h0]
   split <;> simp_all
  ·simp [k,zO,h0]
  ·simp [k,zO,h0]
   split <;> simp_all
  ·simp [k,zO,h0]
 ·rw [if_neg h0]
  unfold latM zF aP dueR trR
  rcases (show e.kind = 1 ∨ e.kind = 2 ∨ e.kind = 3 ∨ e.kind = 4 ∨ e.kind = 5 ∨ e.kind = 6 ∨ e.kind = 7 ∨ e.kind = 8 ∨ e.kind = 9 by omega) with k | k | k | k | k | k | k | k | k
  ·simp [k,zO,h0]
  ·simp [k,zO,h0]
  ·simp only [k,zO,h0]
   generalize dueG g = d
   have hn:d.kind = 9→aS e d = false:=fun h=>by unfold aS; rw [k,h]; rfl
   cases V:aS e d <;> by_cases d0:d.kind = 0 <;> by_cases d9:d.kind = 9 <;> by_cases d3:d.kind = 3 <;> simp [d0,d9,d3] <;> grind
  ·simp only [k,zO,h0]
   generalize hdd:dueG g = d
   have hn:d.kind = 3→aS e d = false:=fun h=>by unfold aS; rw [k,h]; rfl
   cases V:aS e d <;> by_cases d0:d.kind = 0 <;> by_cases d9:d.kind = 9 <;> by_cases d3:d.kind = 3 <;> simp [d0,d9,d3] <;> grind
  ·simp only [k,zO,h0]
   generalize hdd:dueG g = d
   have hn:d.kind = 3→aS e d = false:=fun h=>by unfold aS; rw [k,h]; rfl
   cases V:aS e d <;> by_cases d0:d.kind = 0 <;> by_cases d9:d.kind = 9 <;> by_cases d3:d.kind = 3 <;> simp [d0,d9,d3] <;> grind
  ·simp [k,zO,h0]
  ·simp [k,zO,h0]
  ·simp [k,zO,h0]
  ·simp only [k,zO,h0]
   generalize dueG g = d
   cases V:aS e d <;> by_cases d0:d.kind = 0 <;> simp [d0] <;> grind
theorem filter_gone {l:List Od} {k:Nat} {o:Od} {r:List Od} (hk:l[k]? = some o) (hr:bu l) (hf:l.filter isDy = o :: r):(l.take k ++ l.drop (k + 1)).filter isDy = r:=by
 have hl:l = l.take k ++ o :: l.drop (k + 1):=by
  obtain ⟨N,rfl⟩:=yH.1 hk
  rw [← xd N,List.take_append_drop]
 have Z:isDy o = true:=by
  have:o ∈ l.filter isDy:=by rw [hf]; exact List.mem_cons_self
  exact (List.mem_filter.1 this).2
 have N:(l.take k).filter isDy ++ o :: (l.drop (k + 1)).filter isDy = o :: r:=by
  rw [← hf]
  conv=>rhs; rw [hl]
  rw [List.filter_append,List.filter_cons,if_pos Z]
 rw [List.filter_append]
 cases hc:(l.take k).filter isDy with
 | nil=>rw [hc] at N; simpa using N
 | cons a b =>
  exfalso
  rw [hc] at N
  simp only [List.cons_append,List.cons.injEq] at N
  have ha:a ∈ l.take k:=(List.mem_filter.1 (by rw [hc]; exact List.mem_cons_self)).1
  rw [N.1] at ha
  obtain ⟨j,V⟩:=List.getElem?_of_mem ha
  have hjk:j < k:=by
   have:=(yH.1 V).1
   simp at this; omega
  rw [List.getElem?_take] at V
  rw [if_pos hjk] at V
  have:=rise_id hr V hk rfl
  omega
def tkM (g:Gr) (t:Od) (e:Ev):Od :=
 if e.kind = 1 then ⟨g.nx,e.cmd.s,tkS e.cmd.p,e.cmd.q,e.cmd.l,e.cmd.g⟩ else if e.kind = 3 then { t with left:=t.left - e.qty } else if e.kind = 4 ∨ e.kind = 5 then zOd else t
def kdM (kd:Int) (e:Ev):Int:=if e.kind = 1 then e.cmd.t else kd
def dyM (g:Gr) (dy:List Od) (e:Ev):List Od:=if e.kind = 8 then g.l.filter isDy else if e.kind = 9 then dy.tail else dy
theorem mr_start (next:Int) (l:List Od):MR (gr0 next l) zOd 0 [] :=
 ⟨rfl,fun h=>absurd rfl h,.inl rfl,fun h=>absurd (show (0:Int) = 1 from h) (by decide),rfl⟩
theorem mr_step {g:Gr} {t:Od} {kd:Int} {dy:List Od} {e:Ev} (h:GI g) (hm:MR g t kd dy) (he:okE e = true) (hr:zF g e = 0):MR (aM g e) (tkM g t e) (kdM kd e) (dyM g dy e):=by
 have hk:=dx he
 obtain ⟨nx,l,bg,cm,tk⟩:=g
 have pV:=hm.left
 have hm2:=hm.same
 have hm3:=hm.side
 have hm4:=hm.kd
 have hm5:=hm.dy
 simp only at pV hm2 hm4 hm5
 rcases (show e.kind = 1 ∨ e.kind = 2 ∨ e.kind = 3 ∨ e.kind = 4 ∨ e.kind = 5 ∨ e.kind = 6 ∨ e.kind = 7 ∨ e.kind = 8 ∨ e.kind = 9 by omega) with k | k | k | k | k | k | k | k | k
 ·obtain ⟨N,Y,h3⟩:=rule1 k hr
  simp only at N Y h3
  subst N
  obtain ⟨a1,a2,a3,a4⟩:=new_ok (ref_newG (okE_new he k).1 Y)
  rw [step1 k]
  simp only [tkM,kdM,dyM,begG,k]
  refine ⟨rfl,fun _=>?_,.inr (side_of a1),fun _=>rfl,?_⟩
  ·show (⟨nx,e.cmd.s,tkS e.cmd.p,e.cmd.q,e.cmd.l,e.cmd.g⟩:Od) = ordO e.cmd e.id
   rw [ordO,h3,tk_tkS a2]
  ·rw [hm5]; rfl
 ·have N:=rule2 k hr
  simp only at N
  subst N
  rw [step2 k]
  simp only [tkM,kdM,dyM,begG,k]
  exact ⟨pV,hm2,hm3,fun h9=>absurd h9 (by first | (simp; done) | simp [k]),by rw [hm5]; rfl⟩
 ·obtain ⟨N,Y,o,h3,h4,h5,h6,h7,h8⟩:=rule3 k hr
  simp only at N Y h3 h4 h5 h7
  subst N
  have hs:=hm2 Y
  subst hs
  rw [step3 k]
  simp only [tkM,kdM,dyM,begG,k]
  exact ⟨rfl,fun _=>rfl,hm3,fun _=>hm4 rfl,by rw [hm5]; rfl⟩
 ·obtain ⟨N,Y⟩:=rule45 (.inl k) hr
  simp only at N Y
  subst N
  rw [step4 k]
  simp only [tkM,kdM,dyM,begG,k]
  exact ⟨rfl,fun h9=>absurd rfl h9,.inl rfl,fun _=>hm4 rfl,by rw [hm5]; rfl⟩
 ·obtain ⟨N,Y⟩:=rule45 (.inr k) hr
  simp only at N Y
  subst N
  rw [step5 k]
  simp only [tkM,kdM,dyM,begG,k]
  exact ⟨rfl,fun h9=>absurd rfl h9,.inl rfl,fun _=>hm4 rfl,by rw [hm5]; rfl⟩
 ·obtain ⟨N,_⟩:=rule6 k hr
  simp only at N
  subst N
  rw [step6 k]
  simp only [tkM,kdM,dyM,begG,k]
  exact ⟨pV,hm2,hm3,fun h9=>absurd h9 (by first | (simp; done) | simp [k]),by rw [hm5]; rfl⟩
 ·obtain ⟨N,_⟩:=rule7 k hr
  simp only at N
  subst N
  rw [step7 k]
  simp only [tkM,kdM,dyM,begG,k]
  exact ⟨pV,hm2,hm3,fun h9=>absurd h9 (by first | (simp; done) | simp [k]),by rw [hm5]; rfl⟩
 ·have N:=rule8 k hr
  simp only at N
  subst N
  rw [step8 k]
  simp only [tkM,kdM,dyM,begG,k]
  exact ⟨pV,hm2,hm3,fun h9=>absurd h9 (by first | (simp; done) | simp [k]),rfl⟩
 ·obtain ⟨N,o,Y,h3,h4,h5⟩:=rule9 k hr
  simp only at N Y
  subst N
  have hg:=h.good (.inl (by first | (simp; done) | simp [k]))
  obtain ⟨i,hi⟩:=find_at Y
  have hp:=co hg.rise hi
  rw [if_pos rfl] at hm5
  rw [← List.head?_filter] at Y
  obtain ⟨r,aJ⟩:∃ r,l.filter isDy = o :: r:=by
   cases hc:l.filter isDy with
   | nil=>rw [hc] at Y; simp at Y
   | cons a b=>rw [hc] at Y; simp at Y; subst Y; exact ⟨b,rfl⟩
  rw [step9 k]
  simp only [tkM,kdM,dyM,begG,h3,cF hp hi,k]
  refine ⟨pV,hm2,hm3,fun h9=>absurd h9 (by first | (simp; done) | simp [k]),?_⟩
  rw [hm5,aJ]
  show r = List.filter isDy (aN l i o o.left)
  rw [aN,if_pos rfl,filter_gone hi hg.rise aJ]
theorem tryE_box (w:World):Bx ((w.alloc (L (yw 0 0 0 0 0 0 0 0 ⟨#[]⟩ 0 0 0 0 0).toArray 52)).alloc (L #[.nilIface] 184)) w.heap.size (yw 0 0 0 0 0 0 0 0 ⟨#[]⟩ 0 0 0 0 0) :=
 zf (zq w (yw 0 0 0 0 0 0 0 0 ⟨#[]⟩ 0 0 0 0 0) 52) ((Below.refl (w.heap.size + 1) _).alloc (by simp) _) (by omega)
theorem tryE_err (w:World):Bx ((w.alloc (L (yw 0 0 0 0 0 0 0 0 ⟨#[]⟩ 0 0 0 0 0).toArray 52)).alloc (L #[.nilIface] 184)) (w.heap.size + 1) [.nilIface]:=by
 have h:=zq (w.alloc (L (yw 0 0 0 0 0 0 0 0 ⟨#[]⟩ 0 0 0 0 0).toArray 52)) [.nilIface] 184
 rwa [show (w.alloc (L (yw 0 0 0 0 0 0 0 0 ⟨#[]⟩ 0 0 0 0 0).toArray 52)).heap.size = w.heap.size + 1 by simp] at h
theorem gr_set1 {w W:World} {hR b j:Nat} {u:Value} (h:w.grownBy W (some hR)) (E:w.heap.size ≤ b):w.grownBy (W.setCell ⟨b,j,none⟩ u) (some hR) :=
 ⟨h.os,h.tape,h.output,by have:=h.size; simpa [World.setCell] using this,fun i hi R=>by rw [yT _ _ _ _ (by show i ≠ b; omega)]; exact h.block i hi R⟩
theorem fi (p:Addr) (x:Value) (c k:Int) (older:List PanicEntry) (w:World) (hc:w.cell? p = some x) (hz:w.frozen? p = false) :
  CallsD Tryz.prog 192 #[.pointer (some p)] (.panicking ({ v:=bB c k,recovered:=false } :: older)) w fun e u' w' =>
   e = .returned (.tuple #[])∧u' = .panicking ({ v:=bB c k,recovered:=true } :: older)∧w' = w.setCell p (bB c k):=by
 refine callsD_of_wpS Tryz.func192 rfl fun c₀ A hu=>?_
 simp only [bB] at hu ⊢
 apply wpS_seq
 apply wpS_region
 simp [wpOpsS,go_sem,recoverD,hu,Tryz.ntmps192,Exit.thenS,ta_fault]
 apply wpS_seq
 apply wpS_region
 simp [wpOpsS,go_sem,Exit.thenS]
 refine wpS_cond (t:=true) (by simp [Act.eval,Array.replicate]) ?_
 simp only [if_true]
 apply wpS_region
 simp [wpOpsS,go_sem,hc,hz,bodyPostS,results,Tryz.results192]
theorem catch_idleE (p:Addr) (w:World) :
  CallsD Tryz.prog 192 #[.pointer (some p)] .returning w fun e u' w'=>e = .returned (.tuple #[])∧u' = .returning∧w' = w:=by
 refine callsD_of_wpS Tryz.func192 rfl fun c₀ A hu=>?_
 apply wpS_seq
 apply wpS_region
 simp [wpOpsS,go_sem,recoverD,hu,Tryz.ntmps192,Exit.thenS,ta_nil]
 apply wpS_seq
 apply wpS_region
 simp [wpOpsS,go_sem,Exit.thenS]
 refine wpS_cond (t:=false) (by simp [Act.eval,Array.replicate]) ?_
 simp only [Bool.false_eq_true,if_false]
 refine wpS_of_wp (wp_skip ?_)
 cases c₀
 simp_all [bodyPostS,results,Tryz.results192]
theorem tryE_ok (B:Nat) (a:Option Addr) (len cap:Nat) (k:Int) (x:Ev) (next:Int) (w:World) (hr:Rdr B w (.slice a len cap) k) (h0:0 ≤ k) (N:k ≤ len) (hl:len ≤ 65536)
  (pd:∀ w0,Below w.heap.size w w0→Calls Tryz.prog 122 #[.pointer (some ⟨B,0,none⟩)] w0 fun e w'=>w0.grownBy w' (some B)∧e = .returned (evV x)∧Rdr B w' (.slice a len cap) next) :
  Calls Tryz.prog 161 #[.pointer (some ⟨B,0,none⟩),.func (.func 122) #[] #[]] w fun e w'=>e = .returned (.tuple #[evV x,.nilIface])∧Rdr B w' (.slice a len cap) next∧w.grownBy w' (some B):=by
 have hsf:=sfl
 have hmf:∀ (fn:Fn) (first cap:Array Value) (w:World),(Instr.makeFunc fn first cap).run Tryz.prog w = .ok (.func fn first cap) w:=fun _ _ _ _=>rfl
 have vW:=yL w _ hr.1
 have xz:Below w.heap.size w ((w.alloc (L (yw 0 0 0 0 0 0 0 0 ⟨#[]⟩ 0 0 0 0 0).toArray 52)).alloc (L #[.nilIface] 184)):=((Below.refl _ w).alloc yb _).alloc (by simp) _
 have HR:=H (dO hr xz vW)
 have HX:Hid (Bx ((w.alloc (L (yw 0 0 0 0 0 0 0 0 ⟨#[]⟩ 0 0 0 0 0).toArray 52)).alloc (L #[.nilIface] 184)) w.heap.size (yw 0 0 0 0 0 0 0 0 ⟨#[]⟩ 0 0 0 0 0)):=tryE_box w
 have HY:Hid (Bx ((w.alloc (L (yw 0 0 0 0 0 0 0 0 ⟨#[]⟩ 0 0 0 0 0).toArray 52)).alloc (L #[.nilIface] 184)) (w.heap.size + 1) [.nilIface]):=tryE_err w
 have HZ:Hid (((w.alloc (L (yw 0 0 0 0 0 0 0 0 ⟨#[]⟩ 0 0 0 0 0).toArray 52)).alloc (L #[.nilIface] 184)).heap.size = w.heap.size + 2):=by show _ = _; simp
 have HB:=H xz
 have HRd:=H pd
 clear hr pd xz
 obtain ⟨xn,⟨ck,A,ct,F,cq,ci,O,cg⟩,id,xj,qty,xk,xi⟩:=x
 go_enter_defers Tryz.func161,Tryz.ntmps161
 go_wp2_with fail
 generalize ((w.alloc (L (yw 0 0 0 0 0 0 0 0 ⟨#[]⟩ 0 0 0 0 0).toArray 52)).alloc (L #[.nilIface] 184)) = W1 at HR HX HY HZ HB ⊢
 refine (check_ok B k a len cap _ (U HR) h0 N hl).mono ?_
 rintro e w1 ⟨rfl,q,rfl⟩
 go_wp2_with fail
 refine (U HRd _ (zV (U HB) q)).mono ?_
 rintro e w2 ⟨hg,rfl,aJ⟩
 have hz:=U HZ
 have hX:Bx w2 w.heap.size (yw 0 0 0 0 0 0 0 0 ⟨#[]⟩ 0 0 0 0 0):=aO (cQ (U HX) q) (hg.block w.heap.size (by show w.heap.size < W1.heap.size; omega) (by simp; omega))
 have hY:Bx w2 (w.heap.size + 1) [.nilIface]:=aO (cQ (U HY) q) (hg.block (w.heap.size + 1) (by show w.heap.size + 1 < W1.heap.size; omega) (by simp; omega))
 have HG:Hid (w.grownBy w2 (some B)):=bm (bel_gr (U HB) B) (bm (bS W1 q _) hg)
 have vY:=H aJ
 have qG:=H hX
 have HYY:=H hY
 have z0:=K hX 0 rfl
 have f0:=zd hX 0 (by decide)
 have z1:=K hX 1 rfl
 have f1:=zd hX 1 (by decide)
 have z2:=K hX 2 rfl
 have f2:=zd hX 2 (by decide)
 have z3:=K hX 3 rfl
 have f3:=zd hX 3 (by decide)
 have z4:=K hX 4 rfl
 have f4:=zd hX 4 (by decide)
 have z5:=K hX 5 rfl
 have f5:=zd hX 5 (by decide)
 have z6:=K hX 6 rfl
 have f6:=zd hX 6 (by decide)
 have z7:=K hX 7 rfl
 have f7:=zd hX 7 (by decide)
 have z8:=K hX 8 rfl
 have f8:=zd hX 8 (by decide)
 have z9:=K hX 9 rfl
 have f9:=zd hX 9 (by decide)
 have kU:=K hX 10 rfl
 have f10:=zd hX 10 (by decide)
 have ow:=K hX 11 rfl
 have f11:=zd hX 11 (by decide)
 have ox:=K hX 12 rfl
 have f12:=zd hX 12 (by decide)
 have oy:=K hX 13 rfl
 have f13:=zd hX 13 (by decide)
 have ze:=K hY 0 rfl
 have fe:=zd hY 0 (by decide)
 unfold evV
 simp only
 clear hg aJ hX hY hz HX HY HR HB HZ HRd
 go_wp2_with fail
 rw [set14]
 have HXF0:=zw (us:=(yw xn ck A ct F cq ci O cg id xj qty xk xi)) (U qG) rfl
 have xT:=H (zP (j:=0) (u:=.nilIface) HXF0 (show w.heap.size ≠ w.heap.size + 1 by omega))
 have HYF:=H (aX (j:=0) (u:=.nilIface) (bx_others (us:=(yw xn ck A ct F cq ci O cg id xj qty xk xi)) (U HYY) (show w.heap.size + 1 ≠ w.heap.size by omega)) (by decide))
 have kI:=H (bm (gr_setCells (yw xn ck A ct F cq ci O cg id xj qty xk xi) (U HG) (Nat.le_refl w.heap.size)) (yS _ _))
 have HRF0:=rdr_setCells (yw xn ck A ct F cq ci O cg id xj qty xk xi) (U vY) (show B ≠ w.heap.size by omega)
 have HRF:=H (rdr_grown HRF0 (gr_set _ ⟨w.heap.size + 1,0,none⟩ .nilIface) (by show B ≠ w.heap.size + 1; omega))
 have kI:=H (gr_set1 (j:=0) (u:=.nilIface) (U kI) (show w.heap.size ≤ w.heap.size + 1 by omega))
 clear z0 f0 z1 f1 z2 f2 z3 f3 z4 f4 z5 f5 z6 f6 z7 f7 z8 f8 z9 f9 kU f10 ow f11 ox f12 oy f13 ze fe HXF0 HRF0 qG HYY HG vY
 generalize (w2.setCells w.heap.size 0 (yw xn ck A ct F cq ci O cg id xj qty xk xi)).setCell ⟨w.heap.size + 1,0,none⟩ .nilIface = WF at xT HYF kI HRF ⊢
 refine leaves_cons (f:=192) (args:=#[.pointer (some ⟨w.heap.size + 1,0,none⟩)]) (by simp) (by simp [go_sem]) ?_
 refine (catch_idleE ⟨w.heap.size + 1,0,none⟩ _).mono ?_
 rintro e u' w'' ⟨rfl,rfl,hw⟩
 subst hw
 obtain ⟨d0,d1,d2,d3,d4,d5,d6,d7,d8,d9,ku,kY,kZ,oa⟩:=yz (U xT)
 have de:=K (U HYF) 0 rfl
 simp [Leaves,settle,results,Tryz.results161,go_sem,d0,d1,d2,d3,d4,d5,d6,d7,d8,d9,ku,kY,kZ,oa,de]
 exact ⟨rfl,U HRF,U kI⟩
def zEv:Ev:=⟨0,⟨0,0,0,0,0,0,0,⟨#[]⟩⟩,0,0,0,0,0⟩
theorem tryE_fail (B:Nat) (a:Option Addr) (len cap:Nat) (k c:Int) (w:World) (hr:Rdr B w (.slice a len cap) k) (h0:0 ≤ k) (N:k ≤ len) (hl:len ≤ 65536)
  (pd:∀ w0,Below w.heap.size w w0→Calls Tryz.prog 122 #[.pointer (some ⟨B,0,none⟩)] w0 fun e w'=>w0.grownBy w' (some B)∧∃ p,e = .panicked (bI c p)) :
  Calls Tryz.prog 161 #[.pointer (some ⟨B,0,none⟩),.func (.func 122) #[] #[]] w fun e w'=>(∃ p,e = .returned (.tuple #[evV zEv,bB c p]))∧w.grownBy w' (some B):=by
 have hsf:=sfl
 have hmf:∀ (fn:Fn) (first cap:Array Value) (w:World),(Instr.makeFunc fn first cap).run Tryz.prog w = .ok (.func fn first cap) w:=fun _ _ _ _=>rfl
 have vW:=yL w _ hr.1
 have xz:Below w.heap.size w ((w.alloc (L (yw 0 0 0 0 0 0 0 0 ⟨#[]⟩ 0 0 0 0 0).toArray 52)).alloc (L #[.nilIface] 184)):=((Below.refl _ w).alloc yb _).alloc (by simp) _
 have HR:=H (dO hr xz vW)
 have HX:Hid (Bx ((w.alloc (L (yw 0 0 0 0 0 0 0 0 ⟨#[]⟩ 0 0 0 0 0).toArray 52)).alloc (L #[.nilIface] 184)) w.heap.size (yw 0 0 0 0 0 0 0 0 ⟨#[]⟩ 0 0 0 0 0)):=tryE_box w
 have HY:Hid (Bx ((w.alloc (L (yw 0 0 0 0 0 0 0 0 ⟨#[]⟩ 0 0 0 0 0).toArray 52)).alloc (L #[.nilIface] 184)) (w.heap.size + 1) [.nilIface]):=tryE_err w
 have HZ:Hid (((w.alloc (L (yw 0 0 0 0 0 0 0 0 ⟨#[]⟩ 0 0 0 0 0).toArray 52)).alloc (L #[.nilIface] 184)).heap.size = w.heap.size + 2):=by show _ = _; simp
 have HB:=H xz
 have HRd:=H pd
 clear hr pd xz
 unfold evV zEv
 simp only
 go_enter_defers Tryz.func161,Tryz.ntmps161
 go_wp2_with fail
 generalize ((w.alloc (L (yw 0 0 0 0 0 0 0 0 ⟨#[]⟩ 0 0 0 0 0).toArray 52)).alloc (L #[.nilIface] 184)) = W1 at HR HX HY HZ HB ⊢
 refine (check_ok B k a len cap _ (U HR) h0 N hl).mono ?_
 rintro e w1 ⟨rfl,q,rfl⟩
 go_wp2_with fail
 refine (U HRd _ (zV (U HB) q)).mono ?_
 rintro e w2 ⟨hg,p,rfl⟩
 have hz:=U HZ
 have hX:Bx w2 w.heap.size (yw 0 0 0 0 0 0 0 0 ⟨#[]⟩ 0 0 0 0 0):=aO (cQ (U HX) q) (hg.block w.heap.size (by show w.heap.size < W1.heap.size; omega) (by simp; omega))
 have hY:Bx w2 (w.heap.size + 1) [.nilIface]:=aO (cQ (U HY) q) (hg.block (w.heap.size + 1) (by show w.heap.size + 1 < W1.heap.size; omega) (by simp; omega))
 have HG:Hid (w.grownBy w2 (some B)):=bm (bel_gr (U HB) B) (bm (bS W1 q _) hg)
 clear hg
 have xT:=zP (j:=0) (u:=bB c p) hX (show w.heap.size ≠ w.heap.size + 1 by omega)
 have HYF:=aX (j:=0) (u:=bB c p) hY (by decide)
 have kI:=H (gr_set1 (j:=0) (u:=bB c p) (U HG) (show w.heap.size ≤ w.heap.size + 1 by omega))
 have hcE:=K hY 0 rfl
 have hfE:=zd hY 0 (by decide)
 clear HX HY HR HB HZ hz
 go_wp2_with fail
 refine leaves_cons (f:=192) (args:=#[.pointer (some ⟨w.heap.size + 1,0,none⟩)]) (by simp) (by simp [go_sem]) ?_
 refine (fi ⟨w.heap.size + 1,0,none⟩ .nilIface c p [] _ hcE hfE).mono ?_
 rintro e u' w'' ⟨rfl,rfl,hw⟩
 rw [hw]
 clear hw
 generalize w2.setCell ⟨w.heap.size + 1,0,none⟩ (bB c p) = WF at xT HYF kI ⊢
 have d0:=K xT 0 rfl
 have d1:=K xT 1 rfl
 have d2:=K xT 2 rfl
 have d3:=K xT 3 rfl
 have d4:=K xT 4 rfl
 have d5:=K xT 5 rfl
 have d6:=K xT 6 rfl
 have d7:=K xT 7 rfl
 have d8:=K xT 8 rfl
 have d9:=K xT 9 rfl
 have ku:=K xT 10 rfl
 have kY:=K xT 11 rfl
 have kZ:=K xT 12 rfl
 have oa:=K xT 13 rfl
 have de:=K HYF 0 rfl
 simp [Leaves,settle,results,Tryz.results161,go_sem,d0,d1,d2,d3,d4,d5,d6,d7,d8,d9,ku,kY,kZ,oa,de]
 exact ⟨⟨p,rfl⟩,U kI⟩
theorem tryE_check (B:Nat) (a:Option Addr) (len cap:Nat) (k c:Int) (w:World) (hr:Rdr B w (.slice a len cap) k)
  (hchk:∀ w0,Rdr B w0 (.slice a len cap) k→Calls Tryz.prog 193 #[.pointer (some ⟨B,0,none⟩)] w0 fun e w'=>e = .panicked (bI c k)∧∃ q,w' = w0.drewN q) :
  Calls Tryz.prog 161 #[.pointer (some ⟨B,0,none⟩),.func (.func 122) #[] #[]] w fun e w'=>(∃ p,e = .returned (.tuple #[evV zEv,bB c p]))∧w.grownBy w' (some B):=by
 have hsf:=sfl
 have hmf:∀ (fn:Fn) (first cap:Array Value) (w:World),(Instr.makeFunc fn first cap).run Tryz.prog w = .ok (.func fn first cap) w:=fun _ _ _ _=>rfl
 have vW:=yL w _ hr.1
 have xz:Below w.heap.size w ((w.alloc (L (yw 0 0 0 0 0 0 0 0 ⟨#[]⟩ 0 0 0 0 0).toArray 52)).alloc (L #[.nilIface] 184)):=((Below.refl _ w).alloc yb _).alloc (by simp) _
 have HR:=H (dO hr xz vW)
 have HX:Hid (Bx ((w.alloc (L (yw 0 0 0 0 0 0 0 0 ⟨#[]⟩ 0 0 0 0 0).toArray 52)).alloc (L #[.nilIface] 184)) w.heap.size (yw 0 0 0 0 0 0 0 0 ⟨#[]⟩ 0 0 0 0 0)):=tryE_box w
 have HY:Hid (Bx ((w.alloc (L (yw 0 0 0 0 0 0 0 0 ⟨#[]⟩ 0 0 0 0 0).toArray 52)).alloc (L #[.nilIface] 184)) (w.heap.size + 1) [.nilIface]):=tryE_err w
 have HZ:Hid (((w.alloc (L (yw 0 0 0 0 0 0 0 0 ⟨#[]⟩ 0 0 0 0 0).toArray 52)).alloc (L #[.nilIface] 184)).heap.size = w.heap.size + 2):=by show _ = _; simp
 have HB:=H xz
 have HCk:=H hchk
 clear hr hchk xz
 unfold evV zEv
 simp only
 go_enter_defers Tryz.func161,Tryz.ntmps161
 go_wp2_with fail
 generalize ((w.alloc (L (yw 0 0 0 0 0 0 0 0 ⟨#[]⟩ 0 0 0 0 0).toArray 52)).alloc (L #[.nilIface] 184)) = W1 at HR HX HY HZ HB ⊢
 refine (U HCk _ (U HR)).mono ?_
 rintro e w2 ⟨rfl,q,qx⟩
 have hg:(W1.drewN q).grownBy w2 (some B):=by rw [qx]; exact yS _ _
 clear qx
 have hz:=U HZ
 have hX:Bx w2 w.heap.size (yw 0 0 0 0 0 0 0 0 ⟨#[]⟩ 0 0 0 0 0):=aO (cQ (U HX) q) (hg.block w.heap.size (by show w.heap.size < W1.heap.size; omega) (by simp; omega))
 have hY:Bx w2 (w.heap.size + 1) [.nilIface]:=aO (cQ (U HY) q) (hg.block (w.heap.size + 1) (by show w.heap.size + 1 < W1.heap.size; omega) (by simp; omega))
 have HG:Hid (w.grownBy w2 (some B)):=bm (bel_gr (U HB) B) (bm (bS W1 q _) hg)
 clear hg
 have xT:=zP (j:=0) (u:=bB c k) hX (show w.heap.size ≠ w.heap.size + 1 by omega)
 have HYF:=aX (j:=0) (u:=bB c k) hY (by decide)
 have kI:=H (gr_set1 (j:=0) (u:=bB c k) (U HG) (show w.heap.size ≤ w.heap.size + 1 by omega))
 have hcE:=K hY 0 rfl
 have hfE:=zd hY 0 (by decide)
 clear HX HY HR HB HZ hz
 go_wp2_with fail
 refine leaves_cons (f:=192) (args:=#[.pointer (some ⟨w.heap.size + 1,0,none⟩)]) (by simp) (by simp [go_sem]) ?_
 refine (fi ⟨w.heap.size + 1,0,none⟩ .nilIface c k [] _ hcE hfE).mono ?_
 rintro e u' w'' ⟨rfl,rfl,hw⟩
 rw [hw]
 clear hw
 generalize w2.setCell ⟨w.heap.size + 1,0,none⟩ (bB c k) = WF at xT HYF kI ⊢
 have d0:=K xT 0 rfl
 have d1:=K xT 1 rfl
 have d2:=K xT 2 rfl
 have d3:=K xT 3 rfl
 have d4:=K xT 4 rfl
 have d5:=K xT 5 rfl
 have d6:=K xT 6 rfl
 have d7:=K xT 7 rfl
 have d8:=K xT 8 rfl
 have d9:=K xT 9 rfl
 have ku:=K xT 10 rfl
 have kY:=K xT 11 rfl
 have kZ:=K xT 12 rfl
 have oa:=K xT 13 rfl
 have de:=K HYF 0 rfl
 simp [Leaves,settle,results,Tryz.results161,go_sem,d0,d1,d2,d3,d4,d5,d6,d7,d8,d9,ku,kY,kZ,oa,de]
 exact ⟨⟨k,rfl⟩,U kI⟩
def evR (l:List Int) (at_:Int):Ev × Int × Int :=
 if 65536 < l.length then (zEv,0,2) else if at_ < 0 ∨ (l.length:Int) < at_ then (zEv,0,5)
 else match evA l at_.toNat with | some (x,n)=>(x,(n:Int),0) | none=>(zEv,0,3)
def tupE (x:Ev) (y:Int × Int):Value:=.tuple #[evV x,I y.1,I y.2]
theorem evR_long {l:List Int} {k:Int} (h:65536 < l.length):evR l k = (zEv,0,2):=by unfold evR; rw [if_pos h]
theorem evR_out {l:List Int} {k:Int} (h:¬ 65536 < l.length) (N:k < 0 ∨ (l.length:Int) < k):evR l k = (zEv,0,5):=by unfold evR; rw [if_neg h,if_pos N]
theorem evR_some {l:List Int} {k:Nat} {x:Ev} {n:Nat} (h:¬ 65536 < l.length) (N:k ≤ l.length) (hg:evA l k = some (x,n)):evR l k = (x,(n:Int),0):=by
 unfold evR; rw [if_neg h,if_neg (by omega),Int.toNat_natCast,hg]
theorem evR_none {l:List Int} {k:Nat} (h:¬ 65536 < l.length) (N:k ≤ l.length) (hg:evA l k = none):evR l k = (zEv,0,3):=by
 unfold evR; rw [if_neg h,if_neg (by omega),Int.toNat_natCast,hg]
theorem rdE_box (w:World) (v:Value) (at_:Int):Bx ((w.alloc (L (yw 0 0 0 0 0 0 0 0 ⟨#[]⟩ 0 0 0 0 0).toArray 52)).alloc (L #[v,I at_] 182)) w.heap.size (yw 0 0 0 0 0 0 0 0 ⟨#[]⟩ 0 0 0 0 0)∧Rdr (w.heap.size + 1) ((w.alloc (L (yw 0 0 0 0 0 0 0 0 ⟨#[]⟩ 0 0 0 0 0).toArray 52)).alloc (L #[v,I at_] 182)) v at_∧yp w ((w.alloc (L (yw 0 0 0 0 0 0 0 0 ⟨#[]⟩ 0 0 0 0 0).toArray 52)).alloc (L #[v,I at_] 182))∧((w.alloc (L (yw 0 0 0 0 0 0 0 0 ⟨#[]⟩ 0 0 0 0 0).toArray 52)).alloc (L #[v,I at_] 182)).heap.size = w.heap.size + 2:=by
 have hs:(w.alloc (L (yw 0 0 0 0 0 0 0 0 ⟨#[]⟩ 0 0 0 0 0).toArray 52)).heap.size = w.heap.size + 1:=by simp
 refine ⟨zf (zq w (yw 0 0 0 0 0 0 0 0 ⟨#[]⟩ 0 0 0 0 0) 52) ((Below.refl (w.heap.size + 1) _).alloc (by simp) _) (by omega),?_,((Below.refl _ w).alloc yb _).alloc (by simp) _,by simp⟩
 have h:=rdr_new (w.alloc (L (yw 0 0 0 0 0 0 0 0 ⟨#[]⟩ 0 0 0 0 0).toArray 52)) v at_
 rwa [hs] at h
theorem readE_fine (v:Value) (len:Nat) (a:Option Addr) (cap:Nat) (hv:v = .slice a len cap) (at_:Int) (x:Ev) (next:Int) (w:World)
  (htry:∀ w0,w0 = ((w.alloc (L (yw 0 0 0 0 0 0 0 0 ⟨#[]⟩ 0 0 0 0 0).toArray 52)).alloc (L #[v,I at_] 182))→Calls Tryz.prog 161 #[.pointer (some ⟨w.heap.size + 1,0,none⟩),.func (.func 122) #[] #[]] w0 fun e w'=>e = .returned (.tuple #[evV x,.nilIface])∧Rdr (w.heap.size + 1) w' v next∧w0.grownBy w' (some (w.heap.size + 1))) :
  Calls Tryz.prog 121 #[v,I at_,.func (.func 122) #[] #[]] w fun e w'=>e = .returned (tupE x (next,0))∧yp w w':=by
 have hsf:=sfl
 obtain ⟨hX,R,hB,hZ⟩:=rdE_box w v at_
 have HT:=H (htry _ rfl)
 subst hv
 have HX:=H hX
 have HB:=H hB
 have HZ:=H hZ
 clear htry hX R hB hZ
 obtain ⟨xn,⟨ck,A,ct,F,cq,ci,O,cg⟩,id,xj,qty,xk,xi⟩:=x
 go_enter Tryz.func121,Tryz.ntmps121
 go_wp2_with fail
 generalize ((w.alloc (L (yw 0 0 0 0 0 0 0 0 ⟨#[]⟩ 0 0 0 0 0).toArray 52)).alloc (L #[.slice a len cap,I at_] 182)) = W0 at HT HX HB HZ ⊢
 refine (U HT).mono ?_
 rintro e W1 ⟨rfl,hr,hg⟩
 have hz:=U HZ
 have ue:=H ((U HB).trans (gr_below hg (show w.heap.size ≤ w.heap.size + 1 by omega) (by omega)))
 have hX1:=aO (U HX) (hg.block w.heap.size (by omega) (by simp))
 have uI:w.heap.size + 2 ≤ W1.heap.size:=by have:=hg.size; omega
 have qw:=fw W1 (L (yw xn ck A ct F cq ci O cg id xj qty xk xi).toArray 52)
 have pm:Hid (Bx (W1.alloc (L (yw xn ck A ct F cq ci O cg id xj qty xk xi).toArray 52)) W1.heap.size (yw xn ck A ct F cq ci O cg id xj qty xk xi)):=zq W1 (yw xn ck A ct F cq ci O cg id xj qty xk xi) 52
 have xI:=H (zf hX1 qw (by omega))
 have aJ:=dO hr qw (by omega)
 have xw:=H ((U ue).trans (qw.mono (by omega)))
 unfold evV
 simp only
 clear hg HX HB HZ hz hX1 qw ue hr HT
 go_wp2_with fail
 generalize (W1.alloc (L (yw xn ck A ct F cq ci O cg id xj qty xk xi).toArray 52)) = W2 at pm xI aJ xw ⊢
 obtain ⟨c1,c2,c3⟩:=aJ
 obtain ⟨x0,x1,x2,x3,x4,x5,x6,x7,x8,x9,jP,jQ,jR,jS⟩:=yz (U pm)
 have z0:=K (U xI) 0 rfl
 have fz0:=zd (U xI) 0 (by decide)
 have z1:=K (U xI) 1 rfl
 have fz1:=zd (U xI) 1 (by decide)
 have z2:=K (U xI) 2 rfl
 have fz2:=zd (U xI) 2 (by decide)
 have z3:=K (U xI) 3 rfl
 have fz3:=zd (U xI) 3 (by decide)
 have z4:=K (U xI) 4 rfl
 have fz4:=zd (U xI) 4 (by decide)
 have z5:=K (U xI) 5 rfl
 have fz5:=zd (U xI) 5 (by decide)
 have z6:=K (U xI) 6 rfl
 have fz6:=zd (U xI) 6 (by decide)
 have z7:=K (U xI) 7 rfl
 have fz7:=zd (U xI) 7 (by decide)
 have z8:=K (U xI) 8 rfl
 have fz8:=zd (U xI) 8 (by decide)
 have z9:=K (U xI) 9 rfl
 have fz9:=zd (U xI) 9 (by decide)
 have kU:=K (U xI) 10 rfl
 have fz10:=zd (U xI) 10 (by decide)
 have ow:=K (U xI) 11 rfl
 have fz11:=zd (U xI) 11 (by decide)
 have ox:=K (U xI) 12 rfl
 have fz12:=zd (U xI) 12 (by decide)
 have oy:=K (U xI) 13 rfl
 have fz13:=zd (U xI) 13 (by decide)
 have xT:=H (zw (us:=(yw xn ck A ct F cq ci O cg id xj qty xk xi)) (U xI) rfl)
 have HBF:=H (zi w.heap.size yb (yw xn ck A ct F cq ci O cg id xj qty xk xi) 0 W2 (U xw))
 clear pm xI xw
 go_region_with (fail)
 all_goals try go_wp2_with fail
 all_goals
  rw [set14]
  generalize (W2.setCells w.heap.size 0 (yw xn ck A ct F cq ci O cg id xj qty xk xi)) = WF at xT HBF ⊢
  obtain ⟨d0,d1,d2,d3,d4,d5,d6,d7,d8,d9,ku,kY,kZ,oa⟩:=yz (zJ (U xT))
  refine bodyPost_ret (v:=tupE ⟨xn,⟨ck,A,ct,F,cq,ci,O,cg⟩,id,xj,qty,xk,xi⟩ (next,0)) ?_ rfl ⟨rfl,(U HBF).drew⟩
  simp [results,Tryz.f121,go_sem,d0,d1,d2,d3,d4,d5,d6,d7,d8,d9,ku,kY,kZ,oa,tupE,evV]
theorem eZ (v:Value) (len:Nat) (a:Option Addr) (cap:Nat) (hv:v = .slice a len cap) (at_ c:Int) (w:World) (hE:ErrT w)
  (htry:∀ w0,w0 = ((w.alloc (L (yw 0 0 0 0 0 0 0 0 ⟨#[]⟩ 0 0 0 0 0).toArray 52)).alloc (L #[v,I at_] 182))→Calls Tryz.prog 161 #[.pointer (some ⟨w.heap.size + 1,0,none⟩),.func (.func 122) #[] #[]] w0 fun e w'=>(∃ p,e = .returned (.tuple #[evV zEv,bB c p]))∧w0.grownBy w' (some (w.heap.size + 1))) :
  Calls Tryz.prog 121 #[v,I at_,.func (.func 122) #[] #[]] w fun e w'=>e = .returned (tupE zEv (0,c))∧yp w w':=by
 have hsf:=sfl
 obtain ⟨hX,R,hB,hZ⟩:=rdE_box w v at_
 have HT:=H (htry _ rfl)
 subst hv
 have HX:=H hX
 have HB:=H hB
 have HZ:=H hZ
 have HE:=H hE
 clear htry hX R hB hZ hE
 go_enter Tryz.func121,Tryz.ntmps121
 go_wp2_with fail
 generalize ((w.alloc (L (yw 0 0 0 0 0 0 0 0 ⟨#[]⟩ 0 0 0 0 0).toArray 52)).alloc (L #[.slice a len cap,I at_] 182)) = W0 at HT HX HB HZ ⊢
 refine (U HT).mono ?_
 rintro e W1 ⟨⟨p,rfl⟩,hg⟩
 have hz:=U HZ
 have uk:=(U HB).trans (gr_below hg (show w.heap.size ≤ w.heap.size + 1 by omega) (by omega))
 have hX1:=aO (U HX) (hg.block w.heap.size (by omega) (by simp))
 have uI:w.heap.size + 2 ≤ W1.heap.size:=by have:=hg.size; omega
 have qw:=fw W1 (L (yw 0 0 0 0 0 0 0 0 ⟨#[]⟩ 0 0 0 0 0).toArray 52)
 have uW:(W1.alloc (L (yw 0 0 0 0 0 0 0 0 ⟨#[]⟩ 0 0 0 0 0).toArray 52)).heap.size = W1.heap.size + 1:=by simp
 have hbb:Below (W1.heap.size + 1) (W1.alloc (L (yw 0 0 0 0 0 0 0 0 ⟨#[]⟩ 0 0 0 0 0).toArray 52)) ((W1.alloc (L (yw 0 0 0 0 0 0 0 0 ⟨#[]⟩ 0 0 0 0 0).toArray 52)).alloc (L (yw 0 0 0 0 0 0 0 0 ⟨#[]⟩ 0 0 0 0 0).toArray 52)):=(Below.refl _ _).alloc (by omega) _
 have pn:Hid (Bx ((W1.alloc (L (yw 0 0 0 0 0 0 0 0 ⟨#[]⟩ 0 0 0 0 0).toArray 52)).alloc (L (yw 0 0 0 0 0 0 0 0 ⟨#[]⟩ 0 0 0 0 0).toArray 52)) (W1.heap.size + 1) (yw 0 0 0 0 0 0 0 0 ⟨#[]⟩ 0 0 0 0 0)):=by
  have h:=zq (W1.alloc (L (yw 0 0 0 0 0 0 0 0 ⟨#[]⟩ 0 0 0 0 0).toArray 52)) (yw 0 0 0 0 0 0 0 0 ⟨#[]⟩ 0 0 0 0 0) 52
  rw [uW] at h
  exact h
 have uP:=H (zf (zf hX1 qw (by omega)) hbb (by omega))
 have xN:=H ((uk.trans (qw.mono (by omega))).trans (hbb.mono (by omega)))
 have HZ3:Hid (((W1.alloc (L (yw 0 0 0 0 0 0 0 0 ⟨#[]⟩ 0 0 0 0 0).toArray 52)).alloc (L (yw 0 0 0 0 0 0 0 0 ⟨#[]⟩ 0 0 0 0 0).toArray 52)).heap.size = W1.heap.size + 2):=by show _ = _; simp
 have HE3:=H (cy (U HE) (U xN) yb)
 unfold evV zEv bB
 simp only
 clear hg HX HB HZ hz hX1 qw hbb uk HT uW
 go_wp2_with fail
 generalize ((W1.alloc (L (yw 0 0 0 0 0 0 0 0 ⟨#[]⟩ 0 0 0 0 0).toArray 52)).alloc (L (yw 0 0 0 0 0 0 0 0 ⟨#[]⟩ 0 0 0 0 0).toArray 52)) = W2 at pn uP xN HZ3 HE3 ⊢
 obtain ⟨y0,y1,y2,y3,y4,y5,y6,y7,y8,y9,y10,y11,y12,y13⟩:=yz (U pn)
 have uw:Hid (Calls Tryz.prog 162 #[.iface 224 (.agg #[I c,I p])] W2.drew fun e w3=>e = .returned (I c)∧Bx w3 (W1.heap.size + 1) (yw 0 0 0 0 0 0 0 0 ⟨#[]⟩ 0 0 0 0 0)∧Bx w3 w.heap.size (yw 0 0 0 0 0 0 0 0 ⟨#[]⟩ 0 0 0 0 0)∧yp w w3):=by
  refine (codeOf_any c p W2.drew (U HE3)).mono ?_
  rintro e w3 ⟨rfl,xQ⟩
  have hzz:W2.drew.heap.size = W1.heap.size + 2:=U HZ3
  exact ⟨rfl,zf (zJ (U pn)) xQ (by omega),zf (zJ (U uP)) xQ (by omega),(U xN).drew.trans (xQ.mono (U xN).drew.size)⟩
 go_region_with (go_at_call 162; refine (U uw).mono ?_; rintro e w3 ⟨rfl,hN,hQ,hQB⟩; have HQ:=H hQ; have HQB:=H hQB; have g0:=K (hN) 0 rfl; have g1:=K (hN) 1 rfl; have g2:=K (hN) 2 rfl; have g3:=K (hN) 3 rfl; have g4:=K (hN) 4 rfl; have g5:=K (hN) 5 rfl; have g6:=K (hN) 6 rfl; have g7:=K (hN) 7 rfl; have g8:=K (hN) 8 rfl; have g9:=K (hN) 9 rfl; have qn:=K (hN) 10 rfl; have vE:=K (hN) 11 rfl; have ua:=K (hN) 12 rfl; have qI:=K (hN) 13 rfl; have z0:=K (hQ) 0 rfl; have fz0:=zd (hQ) 0 (by decide); have z1:=K (hQ) 1 rfl; have fz1:=zd (hQ) 1 (by decide); have z2:=K (hQ) 2 rfl; have fz2:=zd (hQ) 2 (by decide); have z3:=K (hQ) 3 rfl; have fz3:=zd (hQ) 3 (by decide); have z4:=K (hQ) 4 rfl; have fz4:=zd (hQ) 4 (by decide); have z5:=K (hQ) 5 rfl; have fz5:=zd (hQ) 5 (by decide); have z6:=K (hQ) 6 rfl; have fz6:=zd (hQ) 6 (by decide); have z7:=K (hQ) 7 rfl; have fz7:=zd (hQ) 7 (by decide); have z8:=K (hQ) 8 rfl; have fz8:=zd (hQ) 8 (by decide); have z9:=K (hQ) 9 rfl; have fz9:=zd (hQ) 9 (by decide); have kU:=K (hQ) 10 rfl; have fz10:=zd (hQ) 10 (by decide); have ow:=K (hQ) 11 rfl; have fz11:=zd (hQ) 11 (by decide); have ox:=K (hQ) 12 rfl; have fz12:=zd (hQ) 12 (by decide); have oy:=K (hQ) 13 rfl; have fz13:=zd (hQ) 13 (by decide); clear hN hQ hQB)
 all_goals try go_wp2_with fail
 all_goals
  rw [set14]
  have xT:=H (zw (us:=(yw 0 0 0 0 0 0 0 0 ⟨#[]⟩ 0 0 0 0 0)) (U HQ) rfl)
  have HBF:=H (zi w.heap.size yb (yw 0 0 0 0 0 0 0 0 ⟨#[]⟩ 0 0 0 0 0) 0 w3 (U HQB))
  generalize (w3.setCells w.heap.size 0 (yw 0 0 0 0 0 0 0 0 ⟨#[]⟩ 0 0 0 0 0)) = WF at xT HBF ⊢
  obtain ⟨d0,d1,d2,d3,d4,d5,d6,d7,d8,d9,ku,kY,kZ,oa⟩:=yz (U xT)
  refine bodyPost_ret (v:=tupE zEv (0,c)) ?_ rfl ⟨rfl,U HBF⟩
  simp [results,Tryz.f121,go_sem,d0,d1,d2,d3,d4,d5,d6,d7,d8,d9,ku,kY,kZ,oa,tupE,evV,zEv]
end Go.Proofs.YtnphbkgfjanmgaaGreatDoor
