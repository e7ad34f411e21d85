package tests

import (
	"testing"

	"loop.example/g00359/impl"
)

// Run, the net: what is sent, heard, doubled and lost.

func TestActionsUponAnEmptyNet(t *testing.T) {
	want := impl.Run(2, nil, false)
	for _, a := range []impl.Action{deliver(0), deliver(1), deliver(impl.MaxNum), double(0), double(7), lose(0), lose(impl.MaxNum)} {
		for n := 1; n <= 3; n++ {
			if r := checkRun(t, 2, times(n, a)); !sameResult(r, want) {
				t.Errorf("%d of %v upon an empty net make %v", n, a, r)
			}
		}
	}
}

func TestOneMessage(t *testing.T) {
	for _, i := range []int{0, 1, 2, 59, impl.MaxNum - 1, impl.MaxNum} {
		s := newScene(t, 2, said(0, 0, "CREATE in"))
		s.wantNet("a call", 1)
		s.play(deliver(i))
		s.wantNet("its reply", 1)
		s.wantDeeds("heard", 1)
		s.wantCall("ahead of the reply", 1, -1, impl.Reply{})
		s.play(deliver(i))
		s.wantNet("all is heard", 0)
		s.wantCall("answered", 1, 3, num(1))

		s = newScene(t, 2, said(0, 0, "CREATE in"))
		s.play(double(i))
		s.wantNet("the call stays, and its reply", 2)
		s.wantDeeds("heard", 1)
		s.play(double(0))
		s.wantNet("the call was seen", 2)
		s.play(deliver(0))
		s.wantNet("the call goes", 1)
		s.wantDeeds("once", 1)
		s.play(double(i))
		s.wantNet("the reply stays", 1)
		s.wantCall("answered", 1, 5, num(1))

		s = newScene(t, 2, said(0, 0, "CREATE in"))
		s.play(lose(i))
		s.wantNet("the call is lost", 0)
		s.wantDeeds("nothing")
		s.wantCall("nothing", 1, -1, impl.Reply{})
	}
}

// fourCalls are messages of four users' houses whose replies differ.
func fourCalls() []impl.Action {
	return []impl.Action{said(0, 0, "CREATE a"), said(1, 1, "CREATE b"), said(0, 2, "STATUS c"), said(1, 0, "LIST")}
}

// The place in the net is I modulo how many messages are there.
func TestPlacesInTheNet(t *testing.T) {
	for i, at := range map[int]int{0: 0, 1: 1, 2: 2, 3: 3, 4: 0, 5: 1, 7: 3, 8: 0, impl.MaxNum: 3, impl.MaxNum - 1: 2} {
		s := newScene(t, 2, fourCalls()...)
		s.play(deliver(i), deliver(3))
		for call := 1; call <= 4; call++ {
			r := impl.Run(2, s.l, false)
			if answered := r.Calls[call-1].To == 6; answered != (call == at+1) {
				t.Errorf("deliver(%d) of four messages: call %d: %v", i, call, r.Calls[call-1])
			}
		}
		s.wantNet("three calls", 3)

		s = newScene(t, 2, fourCalls()...)
		s.play(double(i), deliver(4))
		s.wantNet("four calls", 4)
		if r := impl.Run(2, s.l, false); r.Calls[at].To != 6 {
			t.Errorf("double(%d) of four messages: %v", i, r.Calls)
		}

		s = newScene(t, 2, fourCalls()...)
		s.play(lose(i))
		s.wantNet("three calls", 3)
		r := s.hush()
		for call := 1; call <= 4; call++ {
			if lost := r.Calls[call-1].To == -1; lost != (call == at+1) {
				t.Errorf("lose(%d) of four messages: call %d: %v", i, call, r.Calls[call-1])
			}
		}
	}
}

// What goes leaves the others in order, and what comes stands behind them.
func TestOrderInTheNet(t *testing.T) {
	s := newScene(t, 2, fourCalls()...)
	s.play(deliver(1), lose(1), deliver(1), deliver(0), deliver(2))
	// Behind these: the replies of calls 2 and 4, and that of call 1 was heard.
	s.wantNet("two replies", 2)
	s.wantDeeds("as they were heard", 2, 1)
	s.wantCall("the last reply", 1, 9, num(1))
	s.play(deliver(1))
	s.wantCall("sent away", 4, 10, away())
	s.play(deliver(0))
	s.wantCall("the first reply", 2, 11, num(1))
	s.wantCall("lost", 3, -1, impl.Reply{})
	s.wantNet("nothing", 0)
}

func TestMaxNetMessages(t *testing.T) {
	s := newScene(t, 1, times(impl.MaxNet-1, said(0, 0, "LIST"))...)
	s.wantNet("one less", impl.MaxNet-1)
	s.play(said(0, 1, "CREATE in"))
	s.wantNet("MaxNet", impl.MaxNet)
	r := s.play(said(0, 2, "CREATE in"))
	s.wantNet("one more", impl.MaxNet)
	if len(r.Calls) != impl.MaxNet+1 {
		t.Errorf("%d calls", len(r.Calls))
	}
	s.play(double(impl.MaxNet - 1))
	s.wantNet("the reply is lost", impl.MaxNet)
	s.wantDeeds("but not what was done", impl.MaxNet)
	s.play(deliver(0))
	s.wantNet("one goes, its reply comes", impl.MaxNet)
	s.play(deliver(impl.MaxNet - 1))
	s.wantCall("the first one's reply is the last message", 1, len(s.l), impl.Reply{})
	s.wantNet("one less", impl.MaxNet-1)
	r = s.hush()
	for i, x := range r.Calls {
		// The second to last one's reply was lost, and it is not done again; the
		// last one was lost itself.
		if lost := x.To == -1; lost != (i >= impl.MaxNet-1) {
			t.Errorf("call %d: %v", i+1, x)
		}
	}
}

// What the keeper tells is lost from the message on that has no room.
func TestTellsThatHaveNoRoom(t *testing.T) {
	for room := range 6 {
		s := newScene(t, 3, times(impl.MaxNet-room, said(2, 1, "LIST"))...)
		s.play(move(0, 1))
		s.wantNet("as many as have room", min(impl.MaxNet, impl.MaxNet-room+4))
		s.wantRow("the move is written down", 0, impl.Row{Epoch: 1, Moving: true, Try: 2, Target: 1})
		if room > 0 {
			s.play(times(impl.MaxNet-room, lose(0))...)
			s.wantNet("the tells alone", min(room, 4))
			s.hush()
			if room < 4 {
				s.wantState("MsFreeze is the last one", 0, 0, impl.StServing, 1, 0)
			} else {
				s.wantState("moved", 1, 0, impl.StServing, 2, 0)
			}
		}
	}
}

// There is no script with more than MaxCalls calls; the last of MaxCalls is
// one like all others.
func TestMaxCalls(t *testing.T) {
	l := times(impl.MaxCalls, said(1, 1, "CREATE in"))
	r := checkRun(t, 2, l)
	if len(r.Calls) != impl.MaxCalls || r.Net != impl.MaxNet {
		t.Fatalf("%d calls, %d messages", len(r.Calls), r.Net)
	}
	for i, x := range r.Calls {
		if x.From != i+1 || x.To != -1 || x.Node != 1 || x.User != 1 || !sameCmd(x.Cmd, createCmd("in")) {
			t.Errorf("call %d: %v", i+1, x)
		}
	}
	l = append(times(impl.MaxCalls-2, lose(0)), said(0, 0, "LIST"), deliver(0))
	if r := checkRun(t, 2, l); len(r.Deeds) != 1 || r.Deeds[0].At != 300 || r.Calls[0].From != 299 {
		t.Errorf("at the end of a long script: %v", r.Deeds)
	}
}

func TestCallsTellWhoAsked(t *testing.T) {
	l := []impl.Action{tick(), said(2, 1, "FETCH in 7"), {Kind: impl.AcCmd, Node: 1, User: 2, I: 99, Cmd: createCmd("x")}}
	want := []impl.Call{
		{User: 1, Node: 2, Cmd: impl.Cmd{Kind: impl.CmFetch, Box: []byte("in"), Uid: 7}, From: 2, To: -1},
		{User: 2, Node: 1, Cmd: createCmd("x"), From: 3, To: -1},
	}
	r := checkRun(t, 3, l)
	if len(r.Calls) != 2 || !sameCall(r.Calls[0], want[0]) || !sameCall(r.Calls[1], want[1]) {
		t.Errorf("%v, want %v", r.Calls, want)
	}
}

// Each kind of action with Node at each house, at the keeper and behind it.
func TestNodesOfActions(t *testing.T) {
	for houses := 1; houses <= impl.MaxHouses; houses++ {
		for node := range impl.MaxHouses + 1 {
			isHouse, isNode := node < houses, node <= houses
			r := checkRun(t, houses, []impl.Action{said(node, 0, "LIST")})
			if (len(r.Calls) == 1) != isHouse || (r.Net == 1) != isHouse {
				t.Errorf("%d houses: a call to %d: %v", houses, node, r)
			}
			r = checkRun(t, houses, []impl.Action{move(0, node)})
			if moving := r.Book.Rows[0].Moving; moving != (isHouse && node > 0) {
				t.Errorf("%d houses: a move to %d: %v", houses, node, r.Book)
			}
			r = checkRun(t, houses, []impl.Action{crash(node)})
			for i, up := range r.Up {
				if up == (i == node) {
					t.Errorf("%d houses: %d falls: %v", houses, node, r.Up)
				}
			}
			if len(r.Up) != houses+1 {
				t.Errorf("%d houses: %v", houses, r.Up)
			}
			r = checkRun(t, houses, []impl.Action{crash(node), start(node)})
			for _, up := range r.Up {
				if !up {
					t.Errorf("%d houses: %d falls and is started: %v", houses, node, r.Up)
				}
			}
			r = checkRun(t, houses, []impl.Action{fuse(node, 0), said(0, 0, "CREATE in"), deliver(0), move(0, 1)})
			for i, up := range r.Up {
				// Nobody asks the keeper of one house, nor a house that has no user, to
				// write anything down.
				burnt := isNode && i == node && (i == 0 || i == houses && houses > 1)
				if up == burnt {
					t.Errorf("%d houses: %d has a fuse: %v", houses, node, r.Up)
				}
			}
			// The Node of all others is not asked.
			for _, a := range []impl.Action{tick(), deliver(0), double(0), lose(0), abort(0)} {
				b := a
				b.Node = node
				ahead := []impl.Action{said(0, 0, "LIST"), move(0, 1)}
				if !sameResult(checkRun(t, houses, append(ahead, a)), checkRun(t, houses, append(ahead, b))) {
					t.Errorf("%d houses: %v is another one with Node %d", houses, a, node)
				}
			}
		}
	}
}

// I is asked of messages and fuses alone, User of calls and moves alone.
func TestNumbersThatAreNotAsked(t *testing.T) {
	ahead := []impl.Action{said(0, 0, "CREATE in"), move(0, 1), move(1, 0), crash(1)}
	for _, a := range []impl.Action{said(0, 0, "LIST"), tick(), crash(0), start(1), move(2, 1), abort(0), deliver(0), double(0), lose(0), fuse(0, 2)} {
		want := checkRun(t, 2, append(ahead[:4:4], a, deliver(0)))
		if a.Kind != impl.AcCmd && a.Kind != impl.AcMove && a.Kind != impl.AcAbort {
			b := a
			b.User = 2
			if !sameResult(checkRun(t, 2, append(ahead[:4:4], b, deliver(0))), want) {
				t.Errorf("%v is another one with User 2", a)
			}
		}
		if a.Kind > impl.AcDrop && a.Kind != impl.AcFuse || a.Kind == impl.AcCmd {
			b := a
			b.I = 1
			if !sameResult(checkRun(t, 2, append(ahead[:4:4], b, deliver(0))), want) {
				t.Errorf("%v is another one with I 1", a)
			}
		}
	}
}

// What a node that is down would hear goes, or stays, and means nothing.
func TestNodesThatAreDownHearNothing(t *testing.T) {
	s := newScene(t, 2, said(0, 0, "CREATE in"), crash(0))
	s.play(double(0))
	s.wantNet("it stays", 1)
	s.wantDeeds("nothing is done")
	s.play(deliver(0))
	s.wantNet("it goes", 0)
	s.wantDeeds("nothing is done")
	s.wantCall("nor answered", 1, -1, impl.Reply{})
	s.play(said(0, 0, "LIST"))
	s.wantNet("a call to a house that is down", 1)
	s.play(start(0), deliver(0), deliver(0))
	s.wantCall("it is heard when the house is up again", 2, 8, impl.Reply{})

	// The keeper, of MsFrozen and MsInstalled.
	for _, steps := range []int{3, 5} {
		s = newScene(t, 2, move(0, 1))
		s.play(times(steps, deliver(0))...)
		s.play(crash(2), double(0))
		s.wantNet("it stays", 1)
		s.play(deliver(0))
		s.wantNet("it goes", 0)
		s.wantRow("the row is as it was", 0, impl.Row{Epoch: 1, Moving: true, Try: 2, Target: 1})
	}

	// A house, of what the keeper tells.
	s = newScene(t, 2, move(0, 1), crash(0), crash(1))
	s.play(times(3, double(2))...)
	s.play(times(3, deliver(0))...)
	s.wantNet("all went", 0)
	s.wantState("as it was", 0, 0, impl.StServing, 1, 0)
	s.wantState("as it was", 1, 0, impl.StNone, 0, 0)
}

// Whoever calls is never down: a reply is heard when all nodes are.
func TestRepliesAreHeardWhenAllAreDown(t *testing.T) {
	s := newScene(t, 2, said(0, 0, "CREATE in"), deliver(0), crash(0), crash(1), crash(2), deliver(0))
	s.wantCall("heard", 1, 6, num(1))
	s.wantNet("nothing", 0)
}

// Each kind of action upon nodes that are down.
func TestActionsUponNodesThatAreDown(t *testing.T) {
	s := newScene(t, 2, crash(2))
	s.play(tick(), move(0, 1), abort(0))
	s.wantNet("the keeper tells nothing", 0)
	s.wantRow("nor moves anybody", 0, impl.Row{Epoch: 1})
	s = newScene(t, 2, move(0, 1), crash(2), abort(0), tick())
	s.wantNet("the keeper tells nothing", 3)
	s.wantRow("nor breaks a move off", 0, impl.Row{Epoch: 1, Moving: true, Try: 2, Target: 1})
	if r := s.play(crash(2)); r.Up[2] {
		t.Error("a node that falls twice is up")
	}
	if r := s.play(start(2)); !r.Up[2] {
		t.Error("a node that fell twice is not started")
	}
	s.play(tick())
	s.wantNet("it tells again", 3+7)
	s.play(fuse(0, 0), start(0), said(0, 0, "CREATE in"), deliver(10))
	if r := impl.Run(2, s.l, false); r.Up[0] {
		t.Error("starting a node that is up takes its fuse away")
	}
	s = newScene(t, 2, crash(0), move(0, 1))
	s.wantRow("a house that is down is no reason not to move", 0, impl.Row{Epoch: 1, Moving: true, Try: 2, Target: 1})
}

func TestRepliesThatComeTwice(t *testing.T) {
	s := newScene(t, 1, said(0, 0, "CREATE in"), deliver(0), double(0))
	s.wantCall("the first time", 1, 3, num(1))
	s.play(tick(), lose(1), lose(1), lose(1), deliver(0))
	s.wantCall("the second time", 1, 3, num(1))
	s.wantNet("nothing", 0)

	// Two replies that differ: the one that is heard first is the call's.
	for first := range 2 {
		s = newScene(t, 1, said(0, 0, "LIST"), double(0), said(0, 0, "CREATE in"), deliver(2))
		s.play(deliver(0))
		s.wantDeeds("the list is told twice", 1, 2, 1)
		s.play(lose(1), deliver(first), deliver(0))
		want := []impl.Reply{{}, {Names: [][]byte{[]byte("in")}}}[first]
		s.wantCall("the first one", 1, 7, want)
	}

	// A reply that sends away, and one that does not.
	s = newScene(t, 2, said(0, 0, "CREATE in"), double(0), move(0, 1), deliver(4), deliver(0))
	s.wantNet("the reply, what was told, MsFrozen, and RpAway", 5)
	s.play(deliver(4))
	s.wantCall("sent away", 1, 6, away())
	s.play(deliver(0))
	s.wantCall("still sent away", 1, 6, away())
	s.wantDeeds("though it was done", 1)
}
