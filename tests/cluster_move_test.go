package tests

import (
	"slices"
	"testing"

	"loop.example/g00359/impl"
)

// Run, moves: the keeper and the houses, message by message; and promise 12.

func oneBox() impl.Account {
	return impl.Account{Valid: 1, Boxes: []impl.Box{{Name: []byte("in"), Valid: 1, Next: 1}}, Seen: []int{1}}
}

// Each step of a move from house 0 to 2, of three.
func TestAMoveStepByStep(t *testing.T) {
	serving := impl.Place{State: impl.StServing, Epoch: 1, Acc: oneBox()}
	frozen := impl.Place{State: impl.StFrozen, Epoch: 1, Try: 2, Acc: oneBox()}
	installed := impl.Place{State: impl.StInstalled, Epoch: 2, Acc: oneBox()}
	dropped := impl.Place{State: impl.StNone, Epoch: 2, Try: 2}
	granted := impl.Place{State: impl.StServing, Epoch: 2, Acc: oneBox()}
	first := impl.Row{Epoch: 1}
	moving := impl.Row{Epoch: 1, Moving: true, Try: 2, Target: 2}
	over := impl.Row{Epoch: 2, Owner: 2, Try: 2, Target: 2}
	s := newScene(t, 3)
	for _, x := range []struct {
		why  string
		a    impl.Action
		row  impl.Row
		net  int
		from impl.Place
		to   impl.Place
	}{
		{"a call", said(0, 0, "CREATE in"), first, 1, impl.Place{State: impl.StServing, Epoch: 1}, impl.Place{}},
		{"is heard", deliver(0), first, 1, serving, impl.Place{}},
		{"is answered", deliver(0), first, 0, serving, impl.Place{}},
		{"the move: MsDrop to 1 and 2, MsGrant, MsFreeze", move(0, 2), moving, 4, serving, impl.Place{}},
		{"MsDrop at 1", deliver(0), moving, 3, serving, impl.Place{}},
		{"MsDrop at 2", deliver(0), moving, 2, serving, impl.Place{}},
		{"MsGrant at 0", deliver(0), moving, 1, serving, impl.Place{}},
		{"MsFreeze at 0", deliver(0), moving, 1, frozen, impl.Place{}},
		{"MsFrozen", deliver(0), moving, 1, frozen, impl.Place{}},
		{"MsInstall at 2", deliver(0), moving, 1, frozen, installed},
		{"MsInstalled: MsDrop to 0 and 1, MsGrant", deliver(0), over, 3, frozen, installed},
		{"MsDrop at 0", deliver(0), over, 2, dropped, installed},
		{"MsDrop at 1", deliver(0), over, 1, dropped, installed},
		{"MsGrant at 2", deliver(0), over, 0, dropped, granted},
	} {
		s.play(x.a)
		s.wantRow(x.why, 0, x.row)
		s.wantNet(x.why, x.net)
		s.wantPlace(x.why, 0, 0, x.from)
		s.wantPlace(x.why, 1, 0, impl.Place{})
		s.wantPlace(x.why, 2, 0, x.to)
		for user := 1; user <= 2; user++ {
			s.wantRow("another user", user, impl.Row{Epoch: 1, Owner: user})
			s.wantState("another user", user, user, impl.StServing, 1, 0)
		}
	}
}

// What is told stands in the net in this order: MsDrop to each house but the
// Owner, MsGrant, and MsFreeze or MsThaw, to it.
func TestOrderOfWhatIsTold(t *testing.T) {
	// MsFreeze is the fourth of four.
	for i, frozen := range []bool{false, false, false, true} {
		s := newScene(t, 3, move(1, 0), deliver(i))
		want := impl.StServing
		if frozen {
			want = impl.StFrozen
		}
		if p := s.play().Houses[1].Places[1]; p.State != want {
			t.Errorf("message %d of a move: %v", i, p)
		}
	}
	// Behind the cut: MsDrop to 1, where the user was, MsDrop to 2, MsGrant to 0.
	cut := []impl.Action{move(1, 0), lose(0), lose(0), lose(0), deliver(0), deliver(0), deliver(0), deliver(0)}
	for i, want := range [][2]int{{impl.StInstalled, impl.StNone}, {impl.StInstalled, impl.StFrozen}, {impl.StServing, impl.StFrozen}} {
		s := newScene(t, 3, append(slices.Clone(cut), deliver(i))...)
		r := s.play()
		if r.Houses[0].Places[1].State != want[0] || r.Houses[1].Places[1].State != want[1] {
			t.Errorf("message %d behind the cut: %v", i, r.Houses)
		}
	}
	// Behind an abort: two MsDrop, MsGrant, MsThaw.
	frozen := []impl.Action{move(1, 0), lose(0), lose(0), lose(0), deliver(0), lose(0), abort(1)}
	for i, thawed := range []bool{false, false, false, true} {
		s := newScene(t, 3, append(slices.Clone(frozen), deliver(i))...)
		want := impl.StFrozen
		if thawed {
			want = impl.StServing
		}
		if p := s.play().Houses[1].Places[1]; p.State != want || p.Try != 2 || p.Epoch != 1 {
			t.Errorf("message %d behind an abort: %v", i, p)
		}
	}
	// A tick tells of each user, in order: MsFreeze of user 2 is the last one.
	s := newScene(t, 3, move(2, 0), lose(0), lose(0), lose(0), lose(0), tick())
	s.play(deliver(9))
	s.wantState("the last message", 2, 2, impl.StFrozen, 1, 2)
	s = newScene(t, 3, move(0, 1), lose(0), lose(0), lose(0), lose(0), tick())
	s.play(deliver(3))
	s.wantState("the fourth message", 0, 0, impl.StFrozen, 1, 2)
}

func TestHowMuchATickTells(t *testing.T) {
	for houses := 1; houses <= impl.MaxHouses; houses++ {
		s := newScene(t, houses, tick())
		s.play()
		s.wantNet("a tick", 3*houses)
		before := impl.Run(houses, nil, false)
		r := s.hush()
		if !slices.EqualFunc(r.Houses, before.Houses, sameHouse) || !sameBook(r.Book, before.Book) {
			t.Errorf("a tick changes something: %v", r)
		}
	}
	s := newScene(t, 3, move(0, 1), move(1, 2))
	s.wantNet("two moves", 8)
	s.play(times(8, lose(0))...)
	s.play(tick())
	s.wantNet("two users that are Moving", 11)
	s.play(times(11, lose(0))...)
	s.play(abort(0))
	s.wantNet("one that was: with MsThaw", 4)
	s.play(times(4, lose(0))...)
	s.play(tick())
	s.wantNet("MsThaw and MsFreeze", 11)
}

func TestMovesThatAreNone(t *testing.T) {
	for user := range impl.MaxUsers {
		s := newScene(t, 3, move(user, user))
		s.play()
		s.wantRow("to the Owner", user, impl.Row{Epoch: 1, Owner: user})
		s.wantNet("to the Owner", 0)
		s.play(move(user, 3))
		s.wantRow("to the keeper", user, impl.Row{Epoch: 1, Owner: user})
		s.wantNet("to the keeper", 0)
	}
	for houses := 1; houses <= 2; houses++ {
		for to := houses; to <= impl.MaxHouses; to++ {
			s := newScene(t, houses, move(0, to))
			s.play()
			s.wantRow("to a house that there is not", 0, impl.Row{Epoch: 1})
			s.wantNet("to a house that there is not", 0)
		}
	}
	for to := range 3 {
		s := newScene(t, 3, move(0, 1), move(0, to))
		s.play()
		s.wantRow("while it is Moving", 0, impl.Row{Epoch: 1, Moving: true, Try: 2, Target: 1})
		s.wantNet("while it is Moving", 4)
	}
	s := newScene(t, 2, abort(0), abort(1))
	s.play()
	s.wantRow("nothing to break off", 0, impl.Row{Epoch: 1})
	s.wantNet("nothing to break off", 0)
	s = newScene(t, 2, move(0, 1), abort(1))
	s.play()
	s.wantRow("another user's is broken off", 0, impl.Row{Epoch: 1, Moving: true, Try: 2, Target: 1})
	s.wantNet("another user's is broken off", 3)
	s.play(abort(0), abort(0))
	s.wantRow("broken off twice", 0, impl.Row{Epoch: 1, Try: 2, Target: 1})
	s.wantNet("broken off twice", 6)
	s = newScene(t, 2, append(movedTo(0), abort(0))...)
	s.play()
	s.wantRow("broken off behind its end", 0, impl.Row{Epoch: 2, Owner: 1, Try: 2, Target: 1})
	s.wantNet("broken off behind its end", 0)
}

// A move that is broken off at any step ahead of its end leaves Owner and
// Epoch as they were, and the user is served when all is heard.
func TestMovesThatAreBrokenOff(t *testing.T) {
	whole := []impl.Action{move(0, 1), deliver(0), deliver(0), deliver(0), deliver(0), deliver(0), deliver(0), deliver(0), deliver(0)}
	for n := 1; n <= len(whole); n++ {
		s := newScene(t, 2, said(0, 0, "CREATE in"), deliver(0), deliver(0))
		s.play(append(whole[:n:n], abort(0))...)
		over := n > 6
		row := impl.Row{Epoch: 1, Try: 2, Target: 1}
		owner, epoch := 0, 1
		if over {
			row = impl.Row{Epoch: 2, Owner: 1, Try: 2, Target: 1}
			owner, epoch = 1, 2
		}
		s.wantRow("broken off", 0, row)
		s.hush()
		s.wantRow("all heard", 0, row)
		r := s.play(said(owner, 0, "LIST"), deliver(0), deliver(0))
		s.wantCall("served", 2, len(s.l), impl.Reply{Names: [][]byte{[]byte("in")}})
		if p := r.Houses[owner].Places[0]; p.State != impl.StServing || p.Epoch != epoch {
			t.Errorf("broken off behind %d steps: %v", n, p)
		}
		// The next one has another Try, and comes to its end.
		s.play(move(0, 1-owner))
		s.wantRow("again", 0, impl.Row{Epoch: epoch, Owner: owner, Moving: true, Try: 3, Target: 1 - owner})
		s.hush()
		s.wantRow("again, to its end", 0, impl.Row{Epoch: 3, Owner: 1 - owner, Try: 3, Target: 1 - owner})
		s.wantState("again, to its end", 1-owner, 0, impl.StServing, 3, r.Houses[1-owner].Places[0].Try)
	}
}

// Wherever one message of a move is lost or doubled, or all of them are, a
// tick or two bring it to its end.
func TestMovesWhoseMessagesAreLostOrDoubled(t *testing.T) {
	for step := range 8 {
		for _, a := range []impl.Action{lose(0), double(0)} {
			s := newScene(t, 2, said(0, 0, "CREATE in"), deliver(0), deliver(0), move(0, 1))
			s.play(times(step, deliver(0))...)
			s.play(a)
			s.hush()
			s.play(tick())
			s.hush()
			s.wantRow("to its end", 0, impl.Row{Epoch: 2, Owner: 1, Try: 2, Target: 1})
			s.wantPlace("to its end", 1, 0, impl.Place{State: impl.StServing, Epoch: 2, Acc: oneBox()})
			s.wantPlace("to its end", 0, 0, impl.Place{Epoch: 2, Try: 2})
		}
	}
	s := newScene(t, 2, said(0, 0, "CREATE in"), deliver(0), deliver(0), move(0, 1))
	for impl.Run(2, s.l, false).Net > 0 && len(s.l) < 150 {
		s.play(double(0), deliver(0))
	}
	s.hush()
	s.wantPlace("all doubled", 1, 0, impl.Place{State: impl.StServing, Epoch: 2, Acc: oneBox()})
	s.wantPlace("all doubled", 0, 0, impl.Place{Epoch: 2, Try: 2})
}

// A freeze that is heard again is answered again; one of another Try anew.
func TestFreezesThatAreHeardAgain(t *testing.T) {
	s := newScene(t, 2, move(0, 1), lose(0), lose(0), double(0))
	s.wantNet("MsFreeze and MsFrozen", 2)
	s.play(double(0))
	s.wantNet("another MsFrozen", 3)
	s.wantState("frozen", 0, 0, impl.StFrozen, 1, 2)
	s.play(deliver(1), deliver(1))
	s.wantNet("MsFreeze and two MsInstall", 3)
	s.play(deliver(1))
	s.wantState("installed", 1, 0, impl.StInstalled, 2, 0)
	s.play(deliver(1))
	s.wantNet("MsFreeze and two MsInstalled", 3)
	s.play(deliver(1))
	s.wantRow("cut", 0, impl.Row{Epoch: 2, Owner: 1, Try: 2, Target: 1})
	s.wantNet("MsFreeze, MsInstalled, MsDrop, MsGrant", 4)
	s.play(deliver(1))
	s.wantNet("cut once alone", 3)
	s.play(deliver(0))
	s.wantNet("frozen still: answered again", 3)
	s.play(deliver(2))
	s.wantNet("that move is over", 2)
	s.play(deliver(0), deliver(0))
	s.wantState("moved", 0, 0, impl.StNone, 2, 2)
	s.wantState("moved", 1, 0, impl.StServing, 2, 0)

	// A freeze of the next Try at a house that is frozen of the last one.
	s = newScene(t, 2, move(0, 1), lose(0), lose(0), double(0), lose(1))
	s.play(abort(0), lose(1), lose(1), lose(1), move(0, 1), lose(1), lose(1))
	s.wantNet("MsFreeze with 2 and with 3", 2)
	s.wantState("frozen with 2", 0, 0, impl.StFrozen, 1, 2)
	s.play(double(1))
	s.wantNet("MsFrozen with 3", 3)
	s.wantState("frozen with 3", 0, 0, impl.StFrozen, 1, 3)
	s.play(deliver(0))
	s.wantNet("what is over means nothing", 2)
	s.wantState("frozen with 3", 0, 0, impl.StFrozen, 1, 3)
	s.hush()
	s.wantState("moved", 1, 0, impl.StServing, 3, 0)
}

// Messages of a try that is over are late at the keeper, too.
func TestLateMessagesAtTheKeeper(t *testing.T) {
	// MsFrozen with 2, of an account that goes on behind it.
	s := newScene(t, 2, move(0, 1), lose(0), lose(0), deliver(0), abort(0), lose(1), lose(1), deliver(1))
	s.wantState("thawed", 0, 0, impl.StServing, 1, 2)
	s.wantNet("MsFrozen with 2", 1)
	s.play(double(0))
	s.wantNet("not Moving: nothing is sent", 1)
	s.play(said(0, 0, "CREATE in"), deliver(1), deliver(1), move(0, 1), lose(1), lose(1))
	s.wantNet("MsFrozen with 2, MsFreeze with 3", 2)
	s.play(deliver(0))
	s.wantNet("another Try: nothing is sent", 1)
	s.hush()
	s.wantPlace("moved with what was done", 1, 0, impl.Place{State: impl.StServing, Epoch: 3, Acc: oneBox()})

	// MsInstalled with 2, which is broken off; then a move with Try 3.
	s = newScene(t, 2, move(0, 1), lose(0), lose(0), deliver(0), deliver(0), deliver(0), abort(0), lose(1), lose(1), deliver(1))
	s.wantNet("MsInstalled with 2", 1)
	s.wantState("installed", 1, 0, impl.StInstalled, 2, 0)
	s.play(double(0))
	s.wantRow("not Moving", 0, impl.Row{Epoch: 1, Try: 2, Target: 1})
	s.play(said(0, 0, "CREATE in"), deliver(1), deliver(1), move(0, 1))
	s.play(deliver(0))
	s.wantRow("another Try", 0, impl.Row{Epoch: 1, Moving: true, Try: 3, Target: 1})
	s.hush()
	s.wantPlace("what was installed with 2 is not what is served", 1, 0, impl.Place{State: impl.StServing, Epoch: 3, Acc: oneBox()})
}

// MsInstall that is heard late: at a house that is installed or serves with
// this Try it is answered, at one that went on it is not.
func TestLateInstalls(t *testing.T) {
	s := newScene(t, 2, move(0, 1), lose(0), lose(0), deliver(0), deliver(0), double(0))
	s.wantNet("MsInstall and MsInstalled", 2)
	s.play(double(0))
	s.wantNet("installed: answered again", 3)
	s.play(deliver(1))
	s.wantNet("MsInstall, MsInstalled, MsDrop, MsGrant", 4)
	s.play(deliver(3))
	s.wantState("serving", 1, 0, impl.StServing, 2, 0)
	s.play(double(0))
	s.wantNet("serving: answered again", 4)
	s.play(said(1, 0, "CREATE in"), deliver(4), deliver(4))
	s.play(double(0))
	s.wantPlace("its account stays", 1, 0, impl.Place{State: impl.StServing, Epoch: 2, Acc: oneBox()})
	s.play(lose(1), lose(2), lose(2))
	s.wantNet("MsInstall, MsDrop", 2)
	s.play(move(0, 0), lose(2), lose(2), deliver(2))
	s.wantState("frozen", 1, 0, impl.StFrozen, 2, 3)
	s.play(double(0))
	s.wantNet("frozen: not answered", 3)
	// The way back is shut as long as house 0 has not heard that it is over.
	s.play(deliver(2))
	s.play(double(2))
	s.wantNet("not installed where it is frozen", 3)
	s.wantState("frozen", 0, 0, impl.StFrozen, 1, 2)
	s.play(deliver(1))
	s.wantState("dropped", 0, 0, impl.StNone, 2, 2)
	s.play(deliver(1), deliver(1))
	s.wantRow("back", 0, impl.Row{Epoch: 3, Try: 3})
	s.play(deliver(1))
	s.wantState("dropped", 1, 0, impl.StNone, 3, 3)
	s.play(deliver(0))
	s.wantState("what is over is not installed", 1, 0, impl.StNone, 3, 3)
	s.wantNet("nor answered", 1)
	s.play(deliver(0))
	s.wantPlace("back", 0, 0, impl.Place{State: impl.StServing, Epoch: 3, Try: 2, Acc: oneBox()})
}

// Messages in each other order: all that are in the net at once, behind a move
// and behind its cut.
func TestMovesHeardInAnotherOrder(t *testing.T) {
	for order := range 24 {
		s := newScene(t, 3, said(0, 0, "CREATE in"), deliver(0), deliver(0), move(0, 1))
		for _, n := range []int{4, 3, 2, 1} {
			s.play(deliver(order % n))
			order /= n
		}
		s.hush()
		s.play(tick())
		s.hush()
		s.wantPlace("moved", 1, 0, impl.Place{State: impl.StServing, Epoch: 2, Acc: oneBox()})
		s.wantPlace("moved", 0, 0, impl.Place{Epoch: 2, Try: 2})
	}
	for order := range 6 {
		s := newScene(t, 3, said(0, 0, "CREATE in"), deliver(0), deliver(0), move(0, 1), lose(0), lose(0), lose(0))
		s.play(times(4, deliver(0))...)
		for _, n := range []int{3, 2, 1} {
			s.play(deliver(order % n))
			order /= n
		}
		s.wantNet("all heard", 0)
		s.wantPlace("moved", 1, 0, impl.Place{State: impl.StServing, Epoch: 2, Acc: oneBox()})
		s.wantPlace("moved", 0, 0, impl.Place{Epoch: 2, Try: 2})
	}
}

func TestMovesOfSeveralUsersAtOnce(t *testing.T) {
	for _, last := range []bool{false, true} {
		s := newScene(t, 3)
		for user := range 3 {
			s.play(said(user, user, []string{"CREATE a", "CREATE b", "CREATE c"}[user]), deliver(0), deliver(0))
		}
		s.play(move(0, 1), move(1, 2), move(2, 0))
		s.wantNet("three moves", 12)
		if last {
			for impl.Run(3, s.l, false).Net > 0 {
				s.l = append(s.l, deliver(impl.Run(3, s.l, false).Net-1))
			}
			s.play()
		}
		r := s.hush()
		for user := range 3 {
			to := (user + 1) % 3
			s.wantRow("moved", user, impl.Row{Epoch: 2, Owner: to, Try: 2, Target: to})
			s.wantState("moved", to, user, impl.StServing, 2, 0)
			s.wantState("moved", user, user, impl.StNone, 2, 2)
			if name := r.Houses[to].Places[user].Acc.Boxes[0].Name; string(name) != []string{"a", "b", "c"}[user] {
				t.Errorf("user %d has box %q", user, name)
			}
		}
	}
}

func TestMovesBackAndForth(t *testing.T) {
	s := newScene(t, 2)
	a := impl.Account{}
	for n := range 12 {
		from, to := n%2, 1-n%2
		line := []string{"CREATE in", `APPEND in (S) "x"`, "COPY in 1 in", "STORE in 1 WITHOUT (S)"}[n%4]
		s.play(said(from, 0, line), deliver(0), deliver(0), move(0, to))
		s.hush()
		a, _ = plainDo(a, said(from, 0, line).Cmd)
		a.Seen = append(a.Seen, n+1)
		// The house it comes to was frozen by the move ahead of this one.
		try := n + 1
		if n == 0 {
			try = 0
		}
		s.wantPlace("served", to, 0, impl.Place{State: impl.StServing, Epoch: n + 2, Try: try, Acc: a})
		s.wantPlace("left", from, 0, impl.Place{Epoch: n + 2, Try: n + 2})
		s.wantRow("the book", 0, impl.Row{Epoch: n + 2, Owner: to, Try: n + 2, Target: to})
	}
}

// heardAction is a call, a move, an abort or a tick; a call is most often to
// the house that has its user.
func heardAction(draw func(int) int, p *plainCluster) impl.Action {
	user, node := draw(3), draw(p.houses)
	switch draw(8) {
	case 0, 1:
		return move(user, node)
	case 2:
		return abort(user)
	case 3:
		return tick()
	}
	if draw(3) > 0 {
		node = p.rows()[user].Owner
	}
	return impl.Action{Kind: impl.AcCmd, Node: node, User: user, Cmd: drawnCmd(draw, p.nodes[node].house.Places[user].Acc)}
}

// heardScript is a script in which all is heard behind each action; elsewhere
// tells of each call whether it was to a house that had not its user.
func heardScript(draw func(int) int, houses int) (l []impl.Action, elsewhere []bool) {
	p := newPlainCluster(houses)
	for {
		a := heardAction(draw, p)
		isElsewhere := a.Node != p.rows()[a.User].Owner
		step := []impl.Action{a}
		p.do(a)
		for len(p.net) > 0 {
			p.do(deliver(0))
			step = append(step, deliver(0))
		}
		if len(l)+len(step) > impl.MaxScript {
			return l, elsewhere
		}
		l = append(l, step...)
		if a.Kind == impl.AcCmd {
			elsewhere = append(elsewhere, isElsewhere)
		}
	}
}

// Promise 12: no command to the house that has its user is sent away, and all
// others are.
func TestWhereAllIsHeardNobodyIsSentAway(t *testing.T) {
	draw := draws(127)
	met := map[bool]int{}
	for range 150 {
		houses := 1 + draw(3)
		l, elsewhere := heardScript(draw, houses)
		r := checkRun(t, houses, l)
		checkSettled(t, houses, l)
		for i, x := range r.Calls {
			if x.To == -1 || (x.Reply.Code == impl.RpAway) != elsewhere[i] {
				t.Fatalf("%d houses, %v: call %d to a house that has its user: %v, is answered %v", houses, l, i+1, !elsewhere[i], x)
			}
			met[elsewhere[i]]++
		}
		if settled := impl.Run(houses, l, true); r.Net != 0 || settled.Rounds != 0 {
			t.Fatalf("%d houses, %v: not quiet: %d messages, %d rounds", houses, l, r.Net, settled.Rounds)
		}
	}
	if met[true] < 500 || met[false] < 500 {
		t.Error(met)
	}
}

// Each house that has not the user sends all away, whatever the command.
func TestHousesThatUsersLeftSendAllAway(t *testing.T) {
	for from := range 3 {
		for to := range 3 {
			if from == to {
				continue
			}
			s := newScene(t, 3, said(from, from, "CREATE inbox"), deliver(0), deliver(0), move(from, to))
			s.hush()
			for _, c := range goodCmds() {
				for house := range 3 {
					s.l = append(s.l, impl.Action{Kind: impl.AcCmd, Node: house, User: from, Cmd: c}, deliver(0), deliver(0))
				}
			}
			for _, x := range s.play().Calls[1:] {
				if x.To == -1 || (x.Reply.Code == impl.RpAway) != (x.Node != to) {
					t.Errorf("from %d to %d: house %d answers %v", from, to, x.Node, x)
				}
			}
		}
	}
}
