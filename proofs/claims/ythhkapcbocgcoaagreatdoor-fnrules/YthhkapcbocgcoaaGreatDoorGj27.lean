/-
  The rules of a group on its way, as the program holds an event against them: a group's state, what is due, the rule that an event breaks, what an event does. No function walked.
-/
import Derived.Test.YthhkapcbocgcoaaGreatDoorGj26
set_option linter.unusedVariables false
set_option maxHeartbeats 6400000
set_option maxRecDepth 100000
namespace Go.Proofs.YthhkapcbocgcoaaGreatDoor
open Go.RowKit
structure Du where
 kind:Int
 id:Int
 other:Int
 qty:Int
 price:Int
def zDu:Du:=⟨0,0,0,0,0⟩
def duV (d:Du):Value:=.agg #[H d.kind,H d.id,H d.other,H d.qty,H d.price]
structure Gr where
 nx:Int
 l:List Od
 bg:Int
 cm:Cm
 tk:Od
def isDy (o:Od):Bool:=o.life == 1
def lftD (c:Cm) (t:Od):Du:=if bR c.t = true then ⟨4,t.id,0,t.left,0⟩ else ⟨5,t.id,0,t.left,0⟩
def takD (l:List Od) (c:Cm) (t:Od):Du :=
 if t.left = 0 then zDu else match bT l (othS c.s) with
 | some o=>if cj c o = true then ⟨3,t.id,o.id,min t.left o.left,o.ticks⟩ else lftD c t
 | none=>lftD c t
def dayD (l:List Od):Du:=match l.find? isDy with
 | some o=>⟨9,o.id,0,o.left,0⟩
 | none=>zDu
def dueG (g:Gr):Du:=if g.bg = 1 then takD g.l g.cm g.tk else if g.bg = 8 then dayD g.l else zDu
def cz (e:Ev) (d:Du):Bool:=(e.kind == d.kind) && ((e.id == d.id) && (e.qty == d.qty))
def leftAt (l:List Od) (id:Int):Int:=match l[(plc l id).toNat]? with | some o=>o.left | none=>0
def zU (g:Gr) (e:Ev):Int:=if g.bg ≠ 0 then 3 else if refR g.nx g.l (da e) ≠ 0 then 5 else 0
def dueR (g:Gr) (e:Ev):Int:=if g.bg = 0 then 3 else if (dueG g).kind = 0 then 8 else if ((dueG g).kind = 9 ∨ e.kind = 9)∧cz e (dueG g) = false then 14 else 0
def trR (d:Du) (e:Ev):Int:=if ¬ (d.kind = 3∧e.id = d.id) then 9 else if e.other ≠ d.other then 10 else if e.price ≠ d.price then 11 else if e.qty ≠ d.qty then 12 else 0
def zD (g:Gr) (e:Ev):Int :=
 if e.kind = 1 then (if zU g e ≠ 0 then zU g e else if e.id = g.nx then 0 else 6)
 else if e.kind = 2 then (if g.bg ≠ 0 then 3 else if refR g.nx g.l e.cmd ≠ 0∧refR g.nx g.l e.cmd = e.reason then 0 else 4)
 else if e.kind = 6 then (if zU g e ≠ 0 then zU g e else if e.qty = leftAt g.l e.id then 0 else 7)
 else if e.kind = 7 then zU g e
 else if e.kind = 8 then (if zU g e ≠ 0 then zU g e else if e.qty = ((g.l.filter isDy).length:Int) then 0 else 7)
 else if dueR g e ≠ 0 then dueR g e
 else if e.kind = 3 then trR (dueG g) e
 else if e.kind = 9 then 0
 else if cz e (dueG g) = true then 0 else 13
def hitI (l:List Od) (id qty:Int):List Od:=match l[(plc l id).toNat]? with | some o=>bQ l (plc l id).toNat o qty | none=>l
def setI (l:List Od) (id qty:Int):List Od:=match l[(plc l id).toNat]? with | some o=>l.set (plc l id).toNat { o with left:=qty } | none=>l
def begG (g:Gr) (e:Ev):Int:=if g.bg = 0 then e.kind else g.bg
def bV (g:Gr) (e:Ev):Gr :=
 if e.kind = 1 then ⟨g.nx + 1,g.l,begG g e,e.cmd,ordO e.cmd e.id⟩
 else if e.kind = 3 then ⟨g.nx,hitI g.l e.other e.qty,begG g e,g.cm,{ g.tk with left:=g.tk.left - e.qty }⟩
 else if e.kind = 4 then ⟨g.nx,g.l ++ [g.tk],begG g e,g.cm,{ g.tk with left:=0 }⟩
 else if e.kind = 5 then ⟨g.nx,g.l,begG g e,g.cm,{ g.tk with left:=0 }⟩
 else if e.kind = 6 then ⟨g.nx,hitI g.l e.id e.qty,begG g e,g.cm,g.tk⟩
 else if e.kind = 7 then ⟨g.nx,setI g.l e.id e.qty,begG g e,g.cm,g.tk⟩
 else if e.kind = 9 then ⟨g.nx,hitI g.l (dueG g).id (dueG g).qty,begG g e,g.cm,g.tk⟩
 else ⟨g.nx,g.l,begG g e,g.cm,g.tk⟩
theorem step1 {g:Gr} {e:Ev} (k:e.kind = 1):bV g e = ⟨g.nx + 1,g.l,begG g e,e.cmd,ordO e.cmd e.id⟩:=by simp [bV,k]
theorem step2 {g:Gr} {e:Ev} (k:e.kind = 2):bV g e = ⟨g.nx,g.l,begG g e,g.cm,g.tk⟩:=by simp [bV,k]
theorem step3 {g:Gr} {e:Ev} (k:e.kind = 3):bV g e = ⟨g.nx,hitI g.l e.other e.qty,begG g e,g.cm,{ g.tk with left:=g.tk.left - e.qty }⟩:=by simp [bV,k]
theorem step4 {g:Gr} {e:Ev} (k:e.kind = 4):bV g e = ⟨g.nx,g.l ++ [g.tk],begG g e,g.cm,{ g.tk with left:=0 }⟩:=by simp [bV,k]
theorem step5 {g:Gr} {e:Ev} (k:e.kind = 5):bV g e = ⟨g.nx,g.l,begG g e,g.cm,{ g.tk with left:=0 }⟩:=by simp [bV,k]
theorem step6 {g:Gr} {e:Ev} (k:e.kind = 6):bV g e = ⟨g.nx,hitI g.l e.id e.qty,begG g e,g.cm,g.tk⟩:=by simp [bV,k]
theorem step7 {g:Gr} {e:Ev} (k:e.kind = 7):bV g e = ⟨g.nx,setI g.l e.id e.qty,begG g e,g.cm,g.tk⟩:=by simp [bV,k]
theorem step8 {g:Gr} {e:Ev} (k:e.kind = 8):bV g e = ⟨g.nx,g.l,begG g e,g.cm,g.tk⟩:=by simp [bV,k]
theorem step9 {g:Gr} {e:Ev} (k:e.kind = 9):bV g e = ⟨g.nx,hitI g.l (dueG g).id (dueG g).qty,begG g e,g.cm,g.tk⟩:=by simp [bV,k]
def runG:Gr→List Ev→Gr × Int
 | g,[]=>(g,0)
 | g,e :: r=>if zD g e = 0 then runG (bV g e) r else (g,zD g e)
def gr0 (next:Int) (l:List Od):Gr:=⟨next,l,0,zCm,zOd⟩
structure GI (g:Gr):Prop where
 len:g.l.length ≤ 21
 l0:0 ≤ g.tk.left
 l1:g.tk.left ≤ 1000000
 good:g.bg ≠ 1 ∨ g.tk.left ≠ 0→GoodL g.l
 free:g.bg ≠ 1→g.tk.left = 0
 rise:cy g.l
 start:g.bg = 0→0 ≤ g.nx∧g.nx ≤ 1000000∧(∀ x ∈ g.l,x.side = 1 ∨ x.side = 2)∧∀ x ∈ g.l,x.id < g.nx
 bg:0 ≤ g.bg∧g.bg ≤ 9
 acc:g.bg = 1→betB g.cm.s 1 2 = true∧prcB g.cm = true∧(g.tk.left ≠ 0→g.tk.side = g.cm.s∧g.tk.ticks = tkS g.cm.p∧∀ x ∈ g.l,x.id < g.tk.id)
theorem okE_kind {e:Ev} (h:okE e = true):1 ≤ e.kind∧e.kind ≤ 9:=by
 unfold okE at h
 split at h
 ·simp at h
 ·rename_i hf
  unfold fldK at hf
  by_cases Q:e.kind = 1
  ·omega
  by_cases D:e.kind = 2
  ·omega
  by_cases X:e.kind = 3
  ·omega
  by_cases h4:e.kind = 4 ∨ e.kind = 5 ∨ e.kind = 6 ∨ e.kind = 7 ∨ e.kind = 9
  ·omega
  by_cases h5:e.kind = 8
  ·omega
  simp [Q,D,X,h4,h5] at hf
theorem okE_new {e:Ev} (h:okE e = true) (E:e.kind = 1):e.cmd.k = 1∧e.cmd.i = 0:=by
 unfold okE at h
 split at h
 ·simp at h
 ·split at h
  ·simp at h
  ·simp only [xf,beq_iff_eq] at h
   exact ⟨h.1,h.2.1⟩
theorem new_ok {next:Int} {l:List Od} {c:Cm} (h:newR next l c = 0):betB c.s 1 2 = true∧prcB c = true∧betB c.q 1 1000000 = true∧betB c.t 1 5 = true:=by
 unfold newR at h
 by_cases Q:betB c.s 1 2 = false
 ·rw [if_pos Q] at h; omega
 rw [if_neg Q] at h
 by_cases D:betB c.t 1 5 = false
 ·rw [if_pos D] at h; omega
 rw [if_neg D] at h
 by_cases X:lifW c = true
 ·rw [if_pos X] at h; omega
 rw [if_neg X] at h
 by_cases h4:prcB c = false
 ·rw [if_pos h4] at h; omega
 rw [if_neg h4] at h
 by_cases h5:betB c.q 1 1000000 = false
 ·rw [if_pos h5] at h; omega
 simp only [Bool.not_eq_false] at Q D h4 h5
 exact ⟨Q,h4,h5,D⟩
theorem ref_newG {next:Int} {l:List Od} {c:Cm} (E:c.k = 1) (h:refR next l c = 0):newR next l c = 0:=by
 unfold refR at h
 rw [if_pos E] at h
 split at h
 ·exact h
 ·omega
theorem tk_tkS {c:Cm} (hp:prcB c = true):tk c.p = tkS c.p:=by
 unfold prcB at hp
 by_cases h:c.t = 2
 ·rw [if_pos h] at hp
  have hz:=fbit_zero (of_decide_eq_true hp)
  rw [hz]
  decide
 ·rw [if_neg h] at hp
  exact (tkS_ok hp).symm
theorem plc_pos {l:List Od} {id:Int} (h:¬ plc l id < 0):∃ (k:Nat) (o:Od),plc l id = k∧l[k]? = some o∧o.id = id:=by
 rcases plcF_spec id l 0 with ⟨Q,_⟩ | ⟨i,o,Q,D,X,_⟩
 ·exact absurd (show plc l id < 0 by rw [plc,Q]; decide) h
 ·exact ⟨i,o,by rw [plc,Q,Nat.zero_add],D,X⟩
theorem ref_can {next:Int} {l:List Od} {id:Int} (h:refR next l ⟨2,0,0,0,0,id,0,⟨#[]⟩⟩ = 0):¬ plc l id < 0:=by
 unfold refR at h
 rw [if_neg (by show ¬ ((2:Int) = 1); decide),if_pos (by rfl)] at h
 split at h
 ·unfold idR at h
  intro hp
  rw [if_pos hp] at h
  omega
 ·omega
theorem ref_red {next:Int} {l:List Od} {id q:Int} (h:refR next l ⟨3,0,0,0,q,id,0,⟨#[]⟩⟩ = 0):∃ (k:Nat) (o:Od),plc l id = k∧l[k]? = some o∧o.id = id∧1 ≤ q∧q < o.left:=by
 unfold refR at h
 rw [if_neg (by show ¬ ((3:Int) = 1); decide),if_neg (by show ¬ ((3:Int) = 2); decide),if_pos (by rfl)] at h
 split at h
 ·unfold redR at h
  split at h
  ·rename_i hq
   split at h
   ·omega
   ·rename_i hp
    obtain ⟨k,o,Q,D,X⟩:=plc_pos hp
    rw [Q,Int.toNat_natCast,D] at h
    simp only at h
    split at h
    ·omega
    ·exact ⟨k,o,Q,D,X,by simp [betB] at hq; omega,by omega⟩
  ·omega
 ·omega
theorem ex {l:List Od} {id qty:Int} {k:Nat} {o:Od} (hp:plc l id = k) (E:l[k]? = some o):hitI l id qty = bQ l k o qty:=by
 unfold hitI
 rw [hp,Int.toNat_natCast,E]
theorem setI_at {l:List Od} {id qty:Int} {k:Nat} {o:Od} (hp:plc l id = k) (E:l[k]? = some o):setI l id qty = l.set k { o with left:=qty }:=by
 unfold setI
 rw [hp,Int.toNat_natCast,E]
theorem leftAt_at {l:List Od} {id:Int} {k:Nat} {o:Od} (hp:plc l id = k) (E:l[k]? = some o):leftAt l id = o.left:=by
 unfold leftAt
 rw [hp,Int.toNat_natCast,E]
theorem takD_three {l:List Od} {c:Cm} {t:Od} (h:(takD l c t).kind = 3):t.left ≠ 0∧∃ o,bT l (othS c.s) = some o∧cj c o = true∧takD l c t = ⟨3,t.id,o.id,min t.left o.left,o.ticks⟩:=by
 unfold takD lftD at *
 by_cases h0:t.left = 0
 ·rw [if_pos h0] at h; exact absurd h (by decide)
 ·rw [if_neg h0] at h ⊢
  refine ⟨h0,?_⟩
  cases hf:bT l (othS c.s) with
  | none=>rw [hf] at h; simp only at h; split at h <;> simp at h
  | some o =>
   rw [hf] at h
   simp only at h
   by_cases hm:cj c o = true
   ·exact ⟨o,rfl,hm,by simp only [hm,if_true]⟩
   ·rw [if_neg hm] at h; split at h <;> simp at h
theorem takD_left {l:List Od} {c:Cm} {t:Od} (h:(takD l c t).kind ≠ 0):t.left ≠ 0:=by
 intro h0
 unfold takD at h
 rw [if_pos h0] at h
 exact h rfl
theorem takD_kind (l:List Od) (c:Cm) (t:Od):(takD l c t).kind = 0 ∨ (takD l c t).kind = 3 ∨ (takD l c t).kind = 4 ∨ (takD l c t).kind = 5:=by
 unfold takD lftD zDu
 repeat' split
 all_goals simp
theorem dayD_nine {l:List Od} (h:(dayD l).kind ≠ 0):∃ o,l.find? isDy = some o∧dayD l = ⟨9,o.id,0,o.left,0⟩:=by
 unfold dayD at *
 cases hf:l.find? isDy with
 | none=>rw [hf] at h; exact absurd rfl h
 | some o=>exact ⟨o,rfl,rfl⟩
theorem dayD_kind (l:List Od):(dayD l).kind = 0 ∨ (dayD l).kind = 9:=by
 unfold dayD zDu
 split <;> simp
theorem due_bg {g:Gr} (h:(dueG g).kind ≠ 0):(g.bg = 1∧dueG g = takD g.l g.cm g.tk) ∨ (g.bg = 8∧dueG g = dayD g.l):=by
 unfold dueG at *
 by_cases Q:g.bg = 1
 ·exact .inl ⟨Q,by rw [if_pos Q]⟩
 ·by_cases h8:g.bg = 8
  ·exact .inr ⟨h8,by rw [if_neg Q,if_pos h8]⟩
  ·rw [if_neg Q,if_neg h8] at h; exact absurd rfl h
theorem due_three {g:Gr} (h:(dueG g).kind = 3):g.bg = 1∧g.tk.left ≠ 0∧∃ o,bT g.l (othS g.cm.s) = some o∧cj g.cm o = true∧dueG g = ⟨3,g.tk.id,o.id,min g.tk.left o.left,o.ticks⟩:=by
 rcases due_bg (g:=g) (by omega) with ⟨Q,D⟩ | ⟨Q,D⟩
 ·rw [D] at h ⊢
  obtain ⟨X,h4⟩:=takD_three h
  exact ⟨Q,X,h4⟩
 ·rw [D] at h
  rcases dayD_kind g.l with X | X <;> omega
theorem due_nine {g:Gr} (h:(dueG g).kind = 9):g.bg = 8∧∃ o,g.l.find? isDy = some o∧dueG g = ⟨9,o.id,0,o.left,0⟩:=by
 rcases due_bg (g:=g) (by omega) with ⟨Q,D⟩ | ⟨Q,D⟩
 ·rw [D] at h
  rcases takD_kind g.l g.cm g.tk with X | X | X | X <;> omega
 ·rw [D] at h ⊢
  exact ⟨Q,dayD_nine (by omega)⟩
theorem due_left {g:Gr} (h:(dueG g).kind = 4 ∨ (dueG g).kind = 5):g.bg = 1∧g.tk.left ≠ 0:=by
 rcases due_bg (g:=g) (by omega) with ⟨Q,D⟩ | ⟨Q,D⟩
 ·exact ⟨Q,takD_left (l:=g.l) (c:=g.cm) (by rw [← D]; omega)⟩
 ·rw [D] at h
  rcases dayD_kind g.l with X | X <;> omega
theorem gi_start {next:Int} {l:List Od} (hg:GoodL l) (h0:0 ≤ next) (Q:next ≤ 1000000) (hs:∀ x ∈ l,x.side = 1 ∨ x.side = 2) (hi:∀ x ∈ l,x.id < next):GI (gr0 next l) :=
 ⟨by have:=hg.len; show l.length ≤ 21; omega,Int.le_refl _,by show (0:Int) ≤ 1000000; decide,fun _=>hg,fun _=>rfl,hg.rise,fun _=>⟨h0,Q,hs,hi⟩,⟨Int.le_refl _,by show (0:Int) ≤ 9; decide⟩,fun h=>absurd (show (0:Int) = 1 from h) (by decide)⟩
theorem good_set {l:List Od} (h:GoodL l) {k:Nat} {o:Od} (E:l[k]? = some o) {q:Int} (Q:1 ≤ q) (D:q < o.left):GoodL (l.set k { o with left:=q }):=by
 have Y:=h.left o (yP E)
 have:=(dP h E (qty:=o.left - q) (by omega) (by omega)).1
 unfold bQ at this
 rw [if_neg (by omega)] at this
 rwa [show o.left - (o.left - q) = q by omega] at this
theorem hit_idsG {l:List Od} {k:Nat} {o:Od} {q:Int} (E:l[k]? = some o) {b:Int} (h:∀ x ∈ l,x.id < b):∀ x ∈ bQ l k o q,x.id < b:=by
 intro x hx
 rw [bQ] at hx
 split at hx
 ·rcases List.mem_append.1 hx with Q | Q
  ·exact h x (List.mem_of_mem_take Q)
  ·exact h x (List.mem_of_mem_drop Q)
 ·rcases List.mem_or_eq_of_mem_set hx with Q | rfl
  ·exact h x Q
  ·exact h o (yP E)
theorem find_at {l:List Od} {o:Od} (h:l.find? isDy = some o):∃ k:Nat,l[k]? = some o:=List.getElem?_of_mem (List.mem_of_find?_eq_some h)
theorem ej {g:Gr} {e:Ev} (h:zU g e = 0):g.bg = 0∧refR g.nx g.l (da e) = 0:=by
 unfold zU at h
 split at h
 ·omega
 ·split at h
  ·omega
  ·exact ⟨by omega,by omega⟩
theorem due_zero {g:Gr} {e:Ev} (h:dueR g e = 0):g.bg ≠ 0∧(dueG g).kind ≠ 0∧((dueG g).kind = 9 ∨ e.kind = 9→cz e (dueG g) = true):=by
 unfold dueR at h
 split at h
 ·omega
 ·split at h
  ·omega
  ·split at h
   ·omega
   ·rename_i Q D X
    refine ⟨Q,D,fun h4=>?_⟩
    cases hj:cz e (dueG g) with
    | true=>rfl
    | false=>exact absurd ⟨h4,hj⟩ X
theorem just_eq {e:Ev} {d:Du} (h:cz e d = true):e.kind = d.kind∧e.id = d.id∧e.qty = d.qty:=by
 unfold cz at h
 simpa only [xf,beq_iff_eq] using h
theorem rule1 {g:Gr} {e:Ev} (E:e.kind = 1) (h:zD g e = 0):g.bg = 0∧refR g.nx g.l e.cmd = 0∧e.id = g.nx:=by
 unfold zD at h
 rw [if_pos E] at h
 by_cases hs:zU g e = 0
 ·rw [if_neg (by simpa using hs)] at h
  obtain ⟨Q,D⟩:=ej hs
  unfold da at D
  rw [if_pos E] at D
  split at h
  ·rename_i X; exact ⟨Q,D,X⟩
  ·omega
 ·rw [if_pos hs] at h; exact absurd h hs
theorem rule3 {g:Gr} {e:Ev} (E:e.kind = 3) (h:zD g e = 0):g.bg = 1∧g.tk.left ≠ 0∧∃ o,bT g.l (othS g.cm.s) = some o∧cj g.cm o = true∧e.id = g.tk.id∧e.other = o.id∧e.qty = min g.tk.left o.left∧e.price = o.ticks:=by
 unfold zD at h
 simp only [E] at h
 rw [if_neg (by decide),if_neg (by decide),if_neg (by decide),if_neg (by decide),if_neg (by decide)] at h
 by_cases hd:dueR g e = 0
 ·rw [if_neg (by simpa using hd),if_pos trivial] at h
  unfold trR at h
  by_cases Q:(dueG g).kind = 3∧e.id = (dueG g).id
  ·rw [if_neg (by simpa using Q)] at h
   obtain ⟨D,X,o,h4,h5,h6⟩:=due_three Q.1
   by_cases h7:e.other = (dueG g).other
   ·rw [if_neg (by simpa using h7)] at h
    by_cases h8:e.price = (dueG g).price
    ·rw [if_neg (by simpa using h8)] at h
     by_cases h9:e.qty = (dueG g).qty
     ·have vi:=Q.2
      rw [h6] at h7 h8 h9 vi
      exact ⟨D,X,o,h4,h5,vi,h7,h9,h8⟩
     ·rw [if_pos h9] at h; omega
    ·rw [if_pos h8] at h; omega
   ·rw [if_pos h7] at h; omega
  ·rw [if_pos Q] at h; omega
 ·rw [if_pos hd] at h; exact absurd h hd
theorem rule45 {g:Gr} {e:Ev} (E:e.kind = 4 ∨ e.kind = 5) (h:zD g e = 0):g.bg = 1∧g.tk.left ≠ 0:=by
 unfold zD at h
 rw [if_neg (by omega),if_neg (by omega),if_neg (by omega),if_neg (by omega),if_neg (by omega)] at h
 by_cases hd:dueR g e = 0
 ·rw [if_neg (by simpa using hd),if_neg (by omega),if_neg (by omega)] at h
  split at h
  ·rename_i hj
   obtain ⟨Q,_⟩:=just_eq hj
   exact due_left (by omega)
  ·omega
 ·rw [if_pos hd] at h; exact absurd h hd
theorem rule6 {g:Gr} {e:Ev} (E:e.kind = 6) (h:zD g e = 0):g.bg = 0∧∃ (k:Nat) (o:Od),plc g.l e.id = k∧g.l[k]? = some o∧o.id = e.id∧e.qty = o.left:=by
 unfold zD at h
 simp only [E] at h
 rw [if_neg (by decide),if_neg (by decide),if_pos trivial] at h
 by_cases hs:zU g e = 0
 ·rw [if_neg (by simpa using hs)] at h
  obtain ⟨Q,D⟩:=ej hs
  simp only [da,E] at D
  obtain ⟨k,o,X,h4,h5⟩:=plc_pos (ref_can D)
  rw [leftAt_at X h4] at h
  split at h
  ·rename_i h6; exact ⟨Q,k,o,X,h4,h5,h6⟩
  ·omega
 ·rw [if_pos hs] at h; exact absurd h hs
theorem rule7 {g:Gr} {e:Ev} (E:e.kind = 7) (h:zD g e = 0):g.bg = 0∧∃ (k:Nat) (o:Od),plc g.l e.id = k∧g.l[k]? = some o∧o.id = e.id∧1 ≤ e.qty∧e.qty < o.left:=by
 unfold zD at h
 simp only [E] at h
 rw [if_neg (by decide),if_neg (by decide),if_neg (by decide),if_pos trivial] at h
 obtain ⟨Q,D⟩:=ej h
 simp only [da,E] at D
 exact ⟨Q,ref_red D⟩
theorem rule8 {g:Gr} {e:Ev} (E:e.kind = 8) (h:zD g e = 0):g.bg = 0:=by
 unfold zD at h
 simp only [E] at h
 rw [if_neg (by decide),if_neg (by decide),if_neg (by decide),if_neg (by decide),if_pos trivial] at h
 by_cases hs:zU g e = 0
 ·exact (ej hs).1
 ·rw [if_pos hs] at h; exact absurd h hs
theorem rule2 {g:Gr} {e:Ev} (E:e.kind = 2) (h:zD g e = 0):g.bg = 0:=by
 unfold zD at h
 simp only [E] at h
 rw [if_neg (by decide),if_pos trivial] at h
 by_cases hs:g.bg = 0
 ·exact hs
 ·rw [if_pos hs] at h; omega
theorem rule9 {g:Gr} {e:Ev} (E:e.kind = 9) (h:zD g e = 0):g.bg = 8∧∃ o,g.l.find? isDy = some o∧dueG g = ⟨9,o.id,0,o.left,0⟩∧e.id = o.id∧e.qty = o.left:=by
 unfold zD at h
 simp only [E] at h
 rw [if_neg (by decide),if_neg (by decide),if_neg (by decide),if_neg (by decide),if_neg (by decide)] at h
 by_cases hd:dueR g e = 0
 ·obtain ⟨Q,D,X⟩:=due_zero hd
  obtain ⟨h4,h5,h6⟩:=just_eq (X (.inr E))
  obtain ⟨h7,o,h8,h9⟩:=due_nine (g:=g) (by omega)
  rw [h9] at h5 h6
  exact ⟨h7,o,h8,h9,h5,h6⟩
 ·rw [if_pos hd] at h; exact absurd h hd
theorem gi_step {g:Gr} {e:Ev} (h:GI g) (he:okE e = true) (hr:zD g e = 0):GI (bV g e):=by
 have E:=okE_kind he
 obtain ⟨nx,l,bg,cm,tk⟩:=g
 have xD:=h.len
 have jk:=h.l0
 have hl1:=h.l1
 have hbg:=h.bg
 simp only at xD jk hl1 hbg
 rcases (show e.kind = 1 ∨ e.kind = 2 ∨ e.kind = 3 ∨ e.kind = 4 ∨ e.kind = 5 ∨ e.kind = 6 ∨ e.kind = 7 ∨ e.kind = 8 ∨ e.kind = 9 by omega) with k | k | k | k | k | k | k | k | k
 ·obtain ⟨Q,D,X⟩:=rule1 k hr
  simp only at Q D X
  subst Q
  obtain ⟨a1,a2,a3,a4⟩:=new_ok (ref_newG (okE_new he k).1 D)
  have hg:=h.good (.inl (by first | (simp; done) | simp [k]))
  have hq:1 ≤ e.cmd.q∧e.cmd.q ≤ 1000000:=by simpa [betB] using a3
  rw [step1 k]
  simp only [begG]
  exact ⟨xD,by show 0 ≤ e.cmd.q; omega,by show e.cmd.q ≤ 1000000; omega,fun _=>hg,fun h9=>absurd (by first | (simp; done) | simp [k]) h9,hg.rise,fun h9=>absurd h9 (by first | (simp; done) | simp [k]),⟨by first | (simp; done) | simp [k],by first | (simp; done) | simp [k]⟩,fun _=>⟨a1,a2,fun _=>⟨rfl,tk_tkS a2,fun x hx=>by show x.id < e.id; rw [X]; exact (h.start rfl).2.2.2 x hx⟩⟩⟩
 ·have Q:=rule2 k hr
  simp only at Q
  subst Q
  have hf:=h.free (by first | (simp; done) | simp [k])
  have hg:=h.good (.inl (by first | (simp; done) | simp [k]))
  rw [step2 k]
  simp only [begG]
  exact ⟨xD,jk,hl1,fun _=>hg,fun _=>hf,hg.rise,fun h9=>absurd h9 (by first | (simp; done) | simp [k]),⟨by first | (simp; done) | simp [k],by first | (simp; done) | simp [k]⟩,fun h9=>absurd h9 (by first | (simp; done) | simp [k])⟩
 ·obtain ⟨Q,D,o,X,h4,h5,h6,h7,h8⟩:=rule3 k hr
  simp only at Q D X h4 h5 h7
  subst Q
  have hg:=h.good (.inr D)
  obtain ⟨hm,_⟩:=ek X
  obtain ⟨i,hi⟩:=List.getElem?_of_mem hm
  have hp:=dN hg.rise hi
  have Y:=hg.left o hm
  obtain ⟨vh,qx⟩:=dP hg hi (qty:=min tk.left o.left) (by omega) (by omega)
  have hac:=h.acc rfl
  have vC:=vh.len
  rw [step3 k]
  simp only [begG,h6,h7,ex hp hi]
  refine ⟨yO vh.len (by decide),by show 0 ≤ tk.left - min tk.left o.left; omega,by show tk.left - min tk.left o.left ≤ 1000000; omega,fun _=>vh,fun h9=>absurd rfl h9,vh.rise,fun h9=>absurd h9 (by first | (simp; done) | simp [k]),⟨by first | (simp; done) | simp [k],by first | (simp; done) | simp [k]⟩,fun _=>⟨hac.1,hac.2.1,fun _=>⟨(hac.2.2 D).1,(hac.2.2 D).2.1,hit_idsG hi (hac.2.2 D).2.2⟩⟩⟩
 ·obtain ⟨Q,D⟩:=rule45 (.inl k) hr
  simp only at Q D
  subst Q
  have hg:=(h.good (.inr D)).len
  have hac:=h.acc rfl
  simp only at hg
  rw [step4 k]
  simp only [begG]
  exact ⟨by show (l ++ [tk]).length ≤ 21; rw [yQ]; simp only [List.length_cons,List.length_nil]; omega,Int.le_refl _,by first | (simp; done) | simp [k],fun h9=>by rcases h9 with h9 | h9 <;> exact absurd rfl h9,fun h9=>absurd rfl h9,by show (l ++ [tk]).Pairwise _; exact List.pairwise_append.2 ⟨h.rise,List.pairwise_singleton _ _,fun x hx y hy=>by simp at hy; subst hy; exact (hac.2.2 D).2.2 x hx⟩,fun h9=>absurd h9 (by first | (simp; done) | simp [k]),⟨by first | (simp; done) | simp [k],by first | (simp; done) | simp [k]⟩,fun _=>⟨hac.1,hac.2.1,fun h9=>absurd rfl h9⟩⟩
 ·obtain ⟨Q,D⟩:=rule45 (.inr k) hr
  simp only at Q D
  subst Q
  have hac:=h.acc rfl
  rw [step5 k]
  simp only [begG]
  exact ⟨xD,Int.le_refl _,by first | (simp; done) | simp [k],fun h9=>by rcases h9 with h9 | h9 <;> exact absurd rfl h9,fun h9=>absurd rfl h9,h.rise,fun h9=>absurd h9 (by first | (simp; done) | simp [k]),⟨by first | (simp; done) | simp [k],by first | (simp; done) | simp [k]⟩,fun _=>⟨hac.1,hac.2.1,fun h9=>absurd rfl h9⟩⟩
 ·obtain ⟨Q,i,o,hp,hi,_,hq⟩:=rule6 k hr
  simp only at Q hp hi
  subst Q
  have hf:=h.free (by first | (simp; done) | simp [k])
  have hg:=h.good (.inl (by first | (simp; done) | simp [k]))
  have Y:=hg.left o (yP hi)
  obtain ⟨vh,qx⟩:=dP hg hi (qty:=e.qty) (by omega) (by omega)
  have vC:=vh.len
  rw [step6 k]
  simp only [begG,ex hp hi]
  exact ⟨yO vh.len (by decide),jk,hl1,fun _=>vh,fun _=>hf,vh.rise,fun h9=>absurd h9 (by first | (simp; done) | simp [k]),⟨by first | (simp; done) | simp [k],by first | (simp; done) | simp [k]⟩,fun h9=>absurd h9 (by first | (simp; done) | simp [k])⟩
 ·obtain ⟨Q,i,o,hp,hi,_,jl,hq2⟩:=rule7 k hr
  simp only at Q hp hi
  subst Q
  have hf:=h.free (by first | (simp; done) | simp [k])
  have hg:=h.good (.inl (by first | (simp; done) | simp [k]))
  have vh:=good_set hg hi jl hq2
  have vC:=vh.len
  rw [step7 k]
  simp only [begG,setI_at hp hi]
  exact ⟨yO vh.len (by decide),jk,hl1,fun _=>vh,fun _=>hf,vh.rise,fun h9=>absurd h9 (by first | (simp; done) | simp [k]),⟨by first | (simp; done) | simp [k],by first | (simp; done) | simp [k]⟩,fun h9=>absurd h9 (by first | (simp; done) | simp [k])⟩
 ·have Q:=rule8 k hr
  simp only at Q
  subst Q
  have hf:=h.free (by first | (simp; done) | simp [k])
  have hg:=h.good (.inl (by first | (simp; done) | simp [k]))
  rw [step8 k]
  simp only [begG]
  exact ⟨xD,jk,hl1,fun _=>hg,fun _=>hf,hg.rise,fun h9=>absurd h9 (by first | (simp; done) | simp [k]),⟨by first | (simp; done) | simp [k],by first | (simp; done) | simp [k]⟩,fun h9=>absurd h9 (by first | (simp; done) | simp [k])⟩
 ·obtain ⟨Q,o,D,X,h4,h5⟩:=rule9 k hr
  simp only at Q D
  subst Q
  have hf:=h.free (by first | (simp; done) | simp [k])
  have hg:=h.good (.inl (by first | (simp; done) | simp [k]))
  obtain ⟨i,hi⟩:=find_at D
  have hp:=dN hg.rise hi
  have Y:=hg.left o (yP hi)
  obtain ⟨vh,qx⟩:=dP hg hi (qty:=o.left) (by omega) (by omega)
  have vC:=vh.len
  rw [step9 k]
  simp only [begG,X,ex hp hi]
  exact ⟨yO vh.len (by decide),jk,hl1,fun _=>vh,fun _=>hf,vh.rise,fun h9=>absurd h9 (by first | (simp; done) | simp [k]),⟨by first | (simp; done) | simp [k],by first | (simp; done) | simp [k]⟩,fun h9=>absurd h9 (by first | (simp; done) | simp [k])⟩
theorem zg {W:World} {b n j:Nat} (h:W.there b 0 n) (hj:j < n):∃ u,W.cell? (J b j) = some u∧W.frozen? (J b j) = false:=by
 obtain ⟨Q,D⟩:=h j hj
 rw [Nat.zero_add] at Q D
 obtain ⟨u,hu⟩:=Option.isSome_iff_exists.1 Q
 exact ⟨u,hu,D⟩
theorem dm {x:List Bool} {n j:Nat} (hx:x.length = n) (hj:j < n):x[j]? = some false ∨ x[j]? = some true:=by
 rw [yI (by omega)]
 cases x[j] <;> simp
section
variable {mb B:Nat} {W0 V V':World} {vo:Value} {ts:List Ev} {e:Ev} {p q:Prop}
end
structure Tot where
 gr:Int
 ac:Int
 rf:Int
 tr:Int
 vo:Int
 no:Int
 li:Int
 le:Int
def Tot.vs (t:Tot):List Value:=[H t.gr,H t.ac,H t.rf,H t.tr,H t.vo,H t.no,H t.li,H t.le]
def cntE (t:Tot) (e:Ev):Tot :=
 if e.kind = 1 then { t with ac:=wrap64 (t.ac + 1) } else if e.kind = 2 then { t with rf:=wrap64 (t.rf + 1) }
 else if e.kind = 3 then { t with tr:=wrap64 (t.tr + 1),vo:=wrap64 (t.vo + e.qty),no:=wrap64 (t.no + wrap64 (e.qty * e.price)) } else t
def wgT (t:Tot) (ts:List Ev):Tot:=ts.foldl cntE { t with gr:=wrap64 (t.gr + 1) }
theorem range_set {W:World} {b j:Nat} {cs:List Value} {u:Value} (h:W.rangeAt b 0 cs) (hj:j < cs.length):(W.setCell (J b j) u).rangeAt b 0 (cs.set j u):=by
 intro i v hi
 rw [Nat.zero_add]
 by_cases oT:j = i
 ·subst oT
  rw [List.getElem?_set_self hj] at hi
  cases hi
  have:=h j _ (yI hj)
  rw [Nat.zero_add] at this
  exact yN _ _ _ this
 ·rw [yX oT] at hi
  have:=h i v hi
  rw [Nat.zero_add] at this
  exact (yM _ _ _ _ (bZ oT)).trans this
theorem ev_cells {W:World} {b o:Nat} {e:Ev} (h:W.rangeAt b o e.vs):W.cell? (J b o) = some (H e.kind)∧W.cell? (J b (o + 1)) = some (H e.cmd.k)∧W.cell? (J b (o + 2)) = some (H e.cmd.s)∧W.cell? (J b (o + 3)) = some (H e.cmd.t)∧W.cell? (J b (o + 4)) = some (H e.cmd.l)∧W.cell? (J b (o + 5)) = some (H e.cmd.q)∧W.cell? (J b (o + 6)) = some (H e.cmd.i)∧W.cell? (J b (o + 7)) = some (yj e.cmd.p)∧W.cell? (J b (o + 8)) = some (yk e.cmd.g)∧W.cell? (J b (o + 9)) = some (H e.id)∧W.cell? (J b (o + 10)) = some (H e.other)∧W.cell? (J b (o + 11)) = some (H e.qty)∧W.cell? (J b (o + 12)) = some (H e.price)∧W.cell? (J b (o + 13)) = some (H e.reason):=⟨h 0 _ rfl,h 1 _ rfl,h 2 _ rfl,h 3 _ rfl,h 4 _ rfl,h 5 _ rfl,h 6 _ rfl,h 7 _ rfl,h 8 _ rfl,h 9 _ rfl,h 10 _ rfl,h 11 _ rfl,h 12 _ rfl,h 13 _ rfl⟩
abbrev GRow (W:World) (B:Nat) (v:Value) (gs:List Value):Prop:=W.ownsRow B 28 1 v gs.length gs
structure RC (C:Nat→Value→Prop) (mb B:Nat) (gv vo:Value) (gs:List Value) (base:World) (x:List Bool) (f:Nat→Value) (W:World):Prop where
 c:∀ j,x[j]? = some true→C j (f j)
 b:x[11]? = some false→Below base.heap.size base W
 m10:x[10]? = some true→x[11]? = some false→∃ s,f 10 = .slice (some ⟨s,0,none⟩) 1 1∧W.cell? ⟨s,0,none⟩ = some vo
 m11:x[11]? = some true→x[15]? = some false→GRow W B (f 11) (gs ++ [vo])∧base.grownBy W gv.ownBlock
 m15:x[15]? = some true→∃ V,GRow V B (f 11) (gs ++ [vo])∧base.grownBy V gv.ownBlock∧W = V.setCell ⟨mb,0,none⟩ (f 11)
section
variable {C:Nat→Value→Prop} {mb B:Nat} {gv vo:Value} {gs:List Value} {base W W':World} {x:List Bool} {f:Nat→Value}
end
section
variable {C:Nat→Value→Prop} {mb:Nat} {tv:List Value} {base W W':World} {x:List Bool} {f:Nat→Value}
end
theorem gk {B e sz n b:Nat} {v:Value} {xs:List Value} (A:some b ≠ v.ownBlock):∀ (vs:List Value) (o:Nat) (W:World),W.ownsRow B e sz v n xs→(W.setCells b o vs).ownsRow B e sz v n xs
 | [],_,_,h=>h
 | u :: us,o,W,h=>by rw [World.setCells]; exact gk A us (o + 1) _ (cw h A o u)
theorem kind_setC (W:World) (b:Nat) {T:TypeId} {y:Nat × Nat}:∀ (vs:List Value) (o:Nat) {xz:Array Value},W.heap[b]? = some (.cells xz T y)→∃ cur',(W.setCells b o vs).heap[b]? = some (.cells cur' T y):=by
 intro vs
 induction vs generalizing W with
 | nil=>intro o xz h; exact ⟨xz,h⟩
 | cons u us ih =>
  intro o xz h
  rw [World.setCells]
  obtain ⟨c1,Q⟩:=dh W b o u h
  exact ih _ (o + 1) Q
theorem os_setCells (b:Nat):∀ (vs:List Value) (o:Nat) (W:World),(W.setCells b o vs).os = W.os
 | [],_,_=>rfl
 | u :: us,o,W=>by rw [World.setCells,os_setCells b us (o + 1)]; rfl
theorem tape_setCells (b:Nat):∀ (vs:List Value) (o:Nat) (W:World),(W.setCells b o vs).tape = W.tape
 | [],_,_=>rfl
 | u :: us,o,W=>by rw [World.setCells,tape_setCells b us (o + 1)]; rfl
theorem gV (b:Nat):∀ (vs:List Value) (o:Nat) (W:World),(W.setCells b o vs).output = W.output
 | [],_,_=>rfl
 | u :: us,o,W=>by rw [World.setCells,gV b us (o + 1)]; rfl
theorem heap_setCells (b k:Nat) (E:k ≠ b):∀ (vs:List Value) (o:Nat) (W:World),(W.setCells b o vs).heap[k]? = W.heap[k]?
 | [],_,_=>rfl
 | u :: us,o,W=>by rw [World.setCells,heap_setCells b k E us (o + 1)]; exact yT _ _ _ _ E
section
variable {mb B Bo:Nat} {W w':World} {gv:Value} {gs:List Value} {gl:List (List Ev)} {next:Int} {vq:Value} {l:List Od} {t:Tot} {vo:Value} {ts:List Ev}
end
structure RW (C:Nat→Value→Prop) (n:Nat) (T:World→World) (base:World) (x:List Bool) (f:Nat→Value) (W:World):Prop where
 c:∀ j,x[j]? = some true→C j (f j)
 b:x[n]? = some false→Below base.heap.size base W
 m:x[n]? = some true→∃ V,Below base.heap.size base V∧W = T V
def RWA (hR:(Nat→Value)→Act) (C:Nat→Value→Prop) (n:Nat) (T:World→World) (base:World) (x:List Bool) (hb:Act) (W:World):Prop:=∃ f,hb = hR f∧RW C n T base x f W
section
variable {C:Nat→Value→Prop} {n:Nat} {T:World→World} {base W W':World} {x:List Bool} {f:Nat→Value}
theorem zI (h:RW C n T base x f W) (i:Nat) (v:Value) (hv:C i v) (hn:i ≠ n):RW C n T base (x.set i true) (upd f i v) W:=by
 refine ⟨zF h.c hv,?_,?_⟩ <;> rw [gq hn]
 ·exact h.b
 ·exact h.m
theorem fo (h:RW C n T base x f W) (hn:x[n]? = some false) (A:yn W W'):RW C n T base x f W' :=
 ⟨h.c,fun e=>(h.b e).trans (A.mono (h.b e).size),fun e=>by rw [hn] at e; cases e⟩
theorem rw_last (h:RW C n T base x f W) (hn:x[n]? = some false) (hc:∀ j,j = n→x[j]? = some false→C j (f j)):RW C n T base (x.set n true) f (T W):=by
 refine ⟨fun j hj=>?_,?_,fun _=>⟨W,h.b hn,rfl⟩⟩
 ·by_cases hji:j = n
  ·exact hc j hji (by rw [hji]; exact hn)
  ·rw [gq (fun e=>hji e.symm)] at hj; exact h.c j hj
 ·intro e; rw [gqs hn] at e; cases e
end
theorem rw_lastv {C:Nat→Value→Prop} {n:Nat} {T:World→World} {base W:World} {x:List Bool} {f:Nat→Value} (h:RW C n T base x f W) (hn:x[n]? = some false) {v:Value} (hv:C n v):RW C n T base (x.set n true) (upd f n v) (T W):=by
 refine ⟨zF h.c hv,?_,fun _=>⟨W,h.b hn,rfl⟩⟩
 intro e; rw [gqs hn] at e; cases e
def CVw (vs:List (Option Value)) (P:Nat→Prop) (j:Nat) (v:Value):Prop:=(∀ u,vs[j]? = some (some u)→v = u)∧P j


def ndy (o:Od):Bool:=!(o.life == 1)
end Go.Proofs.YthhkapcbocgcoaaGreatDoor
