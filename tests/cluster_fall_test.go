package tests

import (
	"slices"
	"testing"

	"loop.example/g00359/impl"
)

// Run, falls: nodes that fall at any moment, and what a fuse keeps.

// commitCase brings it about that the last action of the script has a node
// write down one record.
type commitCase struct {
	why  string
	l    []impl.Action
	node int
	rec  impl.Record
	deed bool
}

// wideAccount is what the commands of wideCalls make: more than 127 bytes.
func wideAccount() impl.Account {
	a := impl.Account{}
	for i, x := range wideCalls() {
		if x.Kind == impl.AcCmd {
			a, _ = plainDo(a, x.Cmd)
			a.Seen = append(a.Seen, 1+i/3)
		}
	}
	return a
}

func wideCalls() []impl.Action {
	l := []impl.Action{said(0, 0, "CREATE in"), deliver(0), deliver(0)}
	for range 5 {
		l = append(l, said(0, 0, `APPEND in (SR) "a text of thirty bytes, it is "`), deliver(0), deliver(0))
	}
	return l
}

func commitCases() []commitCase {
	frozen := []impl.Action{move(0, 1), lose(0), lose(0), deliver(0)}
	installed := append(slices.Clone(frozen), deliver(0), deliver(0))
	wide := append(wideCalls(), append(slices.Clone(frozen), deliver(0), deliver(0))...)
	return []commitCase{
		{"RcCmd", []impl.Action{said(0, 0, "CREATE in"), deliver(0)}, 0, cmdRecord(0, 1, createCmd("in")), true},
		{"RcCmd, refused", []impl.Action{said(0, 2, "DELETE in"), deliver(0)}, 0, cmdRecord(2, 1, impl.Cmd{Kind: impl.CmDelete, Box: []byte("in")}), true},
		{"RcFreeze", frozen, 0, bareRecord(impl.RcFreeze, 0, 2), false},
		{"RcThaw", append(slices.Clone(frozen), abort(0), lose(1), lose(1), deliver(1)), 0, bareRecord(impl.RcThaw, 0, 2), false},
		{"RcInstall", installed, 1, installRecord(0, 2, impl.Account{}), false},
		{"RcInstall, of many bytes", wide, 1, installRecord(0, 2, wideAccount()), false},
		{"RcDrop", append(slices.Clone(installed), deliver(0), deliver(0)), 0, bareRecord(impl.RcDrop, 0, 2), false},
		{"RcGrant", append(slices.Clone(installed), deliver(0), deliver(1)), 1, bareRecord(impl.RcGrant, 0, 2), false},
		{"RcMove", []impl.Action{move(1, 0)}, 2, moveRecord(1, 0), false},
		{"RcCut", append(slices.Clone(installed), deliver(0)), 2, cutRecord(0), false},
		{"RcAbort", append(slices.Clone(frozen), abort(0)), 2, abortRecord(0), false},
	}
}

// withFuse puts a fuse ahead of the last action.
func (x commitCase) withFuse(node int, keep int) []impl.Action {
	return slices.Insert(slices.Clone(x.l), len(x.l)-1, fuse(node, keep))
}

// sameNode holds what the node is in both ends against each other.
func sameNode(node int, a impl.Result, b impl.Result) bool {
	if node == len(a.Houses) {
		return sameBook(a.Book, b.Book)
	}
	return sameHouse(a.Houses[node], b.Houses[node])
}

func TestRecordsWithoutAFuse(t *testing.T) {
	for _, x := range commitCases() {
		before, after := checkRun(t, 2, x.l[:len(x.l)-1]), checkRun(t, 2, x.l)
		if sameNode(x.node, before, after) {
			t.Errorf("%s: nothing is written down", x.why)
		}
		fallen := checkRun(t, 2, append(slices.Clone(x.l), crash(x.node)))
		again := checkRun(t, 2, append(slices.Clone(x.l), crash(x.node), start(x.node)))
		if !sameNode(x.node, after, fallen) || !sameNode(x.node, after, again) {
			t.Errorf("%s: it is not what it was when it fell", x.why)
		}
		for node := range 3 {
			// A fuse of another node does not burn.
			other := checkRun(t, 2, x.withFuse(node, 0))
			if node != x.node && (!other.Up[node] || !sameNode(x.node, after, other) || other.Net != after.Net) {
				t.Errorf("%s: node %d has a fuse", x.why, node)
			}
		}
	}
}

func TestWhatAFuseKeeps(t *testing.T) {
	for _, x := range commitCases() {
		before, after := impl.Run(2, x.l[:len(x.l)-1], false), impl.Run(2, x.l, false)
		heard := 0
		if x.l[len(x.l)-1].Kind == impl.AcDeliver {
			heard = 1
		}
		size := len(plainRecord(nil, plainRecordBytes(x.rec)))
		for _, keep := range []int{0, 1, 2, 3, size - 2, size - 1, size, size + 1, size + 2, impl.MaxNum} {
			whole := keep >= size
			l := x.withFuse(x.node, keep)
			r := checkRun(t, 2, l)
			if r.Up[x.node] || r.Net != before.Net-heard {
				t.Errorf("%s, %d bytes: up %v, %d messages", x.why, keep, r.Up, r.Net)
			}
			want, deeds := before, len(before.Deeds)
			if whole {
				want = after
				if x.deed {
					deeds++
				}
			}
			if !sameNode(x.node, r, want) || len(r.Deeds) != deeds {
				t.Errorf("%s, %d bytes of %d: %v, want %v", x.why, keep, size, r, want)
			}
			// Started it is the same, and the fuse is gone.
			again := checkRun(t, 2, append(slices.Clone(l), start(x.node)))
			if !again.Up[x.node] || !sameNode(x.node, again, want) || again.Net != r.Net || len(again.Deeds) != deeds {
				t.Errorf("%s, %d bytes of %d, started: %v, want %v", x.why, keep, size, again, want)
			}
			checkSettled(t, 2, l)
			checkFollows(t, 2, l, r)
			redo := append(slices.Clone(l), start(x.node), tick())
			for range 30 {
				redo = append(redo, deliver(0))
			}
			if r := checkRun(t, 2, redo); !r.Up[x.node] {
				t.Errorf("%s, %d bytes: the fuse burns twice", x.why, keep)
			}
		}
	}
}

// The sizes of some records are known: a length, a kind, a user, a number.
func TestSizesOfRecordsUnderAFuse(t *testing.T) {
	for _, x := range []struct {
		why  string
		keep int
		l    []impl.Action
	}{
		{"1 + 3 bytes and CREATE in", 13, []impl.Action{fuse(0, 12), said(0, 0, "CREATE in"), deliver(0)}},
		{"1 + 3 bytes and DELETE in", 13, []impl.Action{fuse(1, 12), said(1, 1, "DELETE in"), deliver(0)}},
		{"RcMove", 4, []impl.Action{fuse(2, 3), move(0, 1)}},
		{"RcFreeze", 4, []impl.Action{move(0, 1), fuse(0, 3), deliver(2)}},
	} {
		for i := range x.l {
			if x.l[i].Kind != impl.AcFuse {
				continue
			}
			node := x.l[i].Node
			cut := checkRun(t, 2, x.l)
			x.l[i].I = x.keep
			kept := checkRun(t, 2, x.l)
			if cut.Up[node] || kept.Up[node] || sameNode(node, cut, kept) {
				t.Errorf("%s: %d bytes are not just its size", x.why, x.keep)
			}
		}
	}
}

// A deed whose record is whole counts though nobody is told; called again it
// is not done again.
func TestDeedsUnderAFuse(t *testing.T) {
	s := newScene(t, 2, fuse(0, 13), said(0, 0, "CREATE in"), double(0))
	r := s.play()
	want := impl.Deed{At: 3, Call: 1, Epoch: 1, Cmd: createCmd("in"), Reply: num(1)}
	if len(r.Deeds) != 1 || !sameDeed(r.Deeds[0], want) || r.Up[0] {
		t.Errorf("%v, want %v", r.Deeds, want)
	}
	s.wantNet("no reply", 1)
	s.play(start(0), deliver(0))
	s.wantNet("seen", 0)
	s.wantDeeds("once", 1)
	s.wantCall("never answered", 1, -1, impl.Reply{})

	s = newScene(t, 2, fuse(0, 12), said(0, 0, "CREATE in"), double(0), start(0), deliver(0), deliver(0))
	s.play()
	s.wantDeeds("not the first time, but the second", 1)
	s.wantCall("answered", 1, 6, num(1))
}

// What a fuse cut off does not stand in the way of records behind it.
func TestRecordsBehindOneThatWasCutOff(t *testing.T) {
	for keep := range 14 {
		s := newScene(t, 2, said(0, 0, "CREATE a"), deliver(0), deliver(0))
		s.play(fuse(0, keep), said(0, 0, "CREATE bb"), deliver(0), start(0))
		s.play(said(0, 0, "CREATE c"), deliver(0), deliver(0), fuse(0, keep), said(0, 0, "CREATE dd"), deliver(0), start(0))
		s.play(said(0, 0, "CREATE e"), deliver(0), deliver(0), crash(0))
		s.wantDeeds("as the names tell", map[bool][]int{false: {1, 3, 5}, true: {1, 2, 3, 4, 5}}[keep == 13]...)
		s.play(start(0), said(0, 0, "LIST"), deliver(0), deliver(0))
		want := impl.Reply{Names: [][]byte{[]byte("a"), []byte("c"), []byte("e")}}
		if keep == 13 {
			want = impl.Reply{Names: [][]byte{[]byte("a"), []byte("bb"), []byte("c"), []byte("dd")}}
		}
		s.wantCall("what is there", 6, len(s.l), want)
	}
}

func TestFusesUponFuses(t *testing.T) {
	call := []impl.Action{said(0, 0, "CREATE in"), deliver(0)}
	for _, x := range []struct {
		why   string
		ahead []impl.Action
		up    bool
		deeds int
	}{
		{"the last one counts", []impl.Action{fuse(0, 99), fuse(0, 0)}, false, 0},
		{"the last one counts", []impl.Action{fuse(0, 0), fuse(0, 99)}, false, 1},
		{"upon a node that is down", []impl.Action{crash(0), fuse(0, 0), start(0)}, true, 1},
		{"it falls ahead of its next record", []impl.Action{fuse(0, 0), crash(0), start(0)}, true, 1},
		{"it falls, and has another", []impl.Action{fuse(0, 0), crash(0), start(0), fuse(0, 99)}, false, 1},
		{"it is started while it is up", []impl.Action{fuse(0, 0), start(0)}, false, 0},
		{"the other house has it", []impl.Action{fuse(1, 0)}, true, 1},
		{"the keeper has it", []impl.Action{fuse(2, 0)}, true, 1},
		{"nobody has it", []impl.Action{fuse(3, 0)}, true, 1},
		{"it burnt", []impl.Action{fuse(0, 0), said(0, 0, "CREATE a"), deliver(0), start(0)}, true, 1},
	} {
		r := checkRun(t, 2, append(slices.Clone(x.ahead), call...))
		if r.Up[0] != x.up || len(r.Deeds) != x.deeds {
			t.Errorf("%s: %v, %d deeds", x.why, r.Up, len(r.Deeds))
		}
	}
}

// Only a record burns a fuse: what can change nothing, is away, is seen, is
// over, or is told, does not.
func TestWhatBurnsNoFuse(t *testing.T) {
	s := newScene(t, 2, said(0, 0, "CREATE in"), double(0), lose(1), fuse(0, 0), fuse(1, 0), fuse(2, 0))
	s.play(deliver(0), said(0, 0, "LIST"), deliver(0), deliver(0), said(0, 1, "CREATE in"), deliver(0), deliver(0))
	s.play(tick(), deliver(0), deliver(0), deliver(0), deliver(0), deliver(0), deliver(0), abort(0), move(0, 0), move(0, 3))
	if r := s.play(); slices.Contains(r.Up, false) || r.Net != 0 {
		t.Fatalf("a fuse burns: %v", r.Up)
	}
	s.wantDeeds("the call and the list", 1, 2)
	s.wantCall("sent away", 3, 13, away())
	if r := s.play(move(1, 0)); r.Up[2] || r.Net != 0 {
		t.Errorf("the keeper's fuse does not burn: %v, %d messages", r.Up, r.Net)
	}
	if r := s.play(said(0, 0, "CREATE in"), deliver(0)); r.Up[0] {
		t.Errorf("the house's fuse does not burn at a command that is refused: %v", r.Up)
	}
	// A freeze, an install that are answered again.
	s = newScene(t, 2, move(0, 1), lose(0), lose(0), double(0), fuse(0, 0), double(0), deliver(1), double(2), fuse(1, 0), double(2))
	if r := s.play(); slices.Contains(r.Up, false) || r.Net != 5 {
		t.Errorf("a fuse burns: %v, %d messages", r.Up, r.Net)
	}
}

// fallScript is a command, a move and a command where it went, heard in order.
func fallScript() []impl.Action {
	l := []impl.Action{said(0, 0, "CREATE in"), deliver(0), deliver(0), move(0, 1)}
	l = append(l, times(8, deliver(0))...)
	return append(l, said(1, 0, `APPEND in () "x"`), deliver(0), deliver(0))
}

// Each node falls at each step, and is started at once, later, or never.
func TestFallsAtEachStep(t *testing.T) {
	whole := fallScript()
	for node := range 3 {
		for at := range len(whole) + 1 {
			for rest := at; rest <= len(whole); rest++ {
				l := slices.Concat(whole[:at], []impl.Action{crash(node)}, whole[at:rest], []impl.Action{start(node)}, whole[rest:])
				r := checkRun(t, 2, l)
				checkFollows(t, 2, l, r)
				checkSettled(t, 2, l)
				if rest == at && !sameResult(shiftedBack(r, at, 2), checkRun(t, 2, whole)) {
					t.Errorf("node %d falls behind %d actions, and is started: %v", node, at, r)
				}
			}
			l := slices.Concat(whole[:at], []impl.Action{crash(node)}, whole[at:])
			checkFollows(t, 2, l, checkRun(t, 2, l))
			checkSettled(t, 2, l)
		}
	}
}

// shiftedBack takes so many actions out of all times behind one.
func shiftedBack(r impl.Result, behind int, by int) impl.Result {
	back := func(at *int) {
		if *at > behind {
			*at -= by
		}
	}
	for i := range r.Deeds {
		back(&r.Deeds[i].At)
	}
	for i := range r.Calls {
		back(&r.Calls[i].From)
		back(&r.Calls[i].To)
	}
	return r
}

// Each node has a fuse at each step, of any size.
func TestFusesAtEachStep(t *testing.T) {
	whole := fallScript()
	for node := range 3 {
		for at := range len(whole) + 1 {
			for _, keep := range []int{0, 1, 3, 4, 5, 12, 13, 14, 15, 16, 17, 18, 19, 20, 21, 22, 23, 24, 25, 26, 27, 28, impl.MaxNum} {
				l := slices.Concat(whole[:at], []impl.Action{fuse(node, keep)}, whole[at:])
				checkFollows(t, 2, l, checkRun(t, 2, l))
				checkSettled(t, 2, l)
				checkSettled(t, 2, allFall(2, l))
				again := slices.Concat(l, []impl.Action{start(node), tick()}, times(12, deliver(0)), []impl.Action{said(1, 0, "LIST"), deliver(0), deliver(0)})
				checkFollows(t, 2, again, checkRun(t, 2, again))
				checkSettled(t, 2, again)
			}
		}
	}
}

// Of a node that is down the end tells what it would be if it were started.
func TestEndsWithNodesThatAreDown(t *testing.T) {
	s := newScene(t, 2, wideCalls()...)
	s.play(move(0, 1), crash(0), crash(1), crash(2))
	r := s.play()
	if slices.Contains(r.Up, true) {
		t.Error(r.Up)
	}
	s.wantPlace("a house", 0, 0, impl.Place{State: impl.StServing, Epoch: 1, Acc: wideAccount()})
	s.wantState("the other house", 1, 1, impl.StServing, 1, 0)
	s.wantRow("the keeper", 0, impl.Row{Epoch: 1, Moving: true, Try: 2, Target: 1})
	s.wantNet("what was told", 3)
	s.play(start(0), start(2))
	r = s.play(deliver(1), deliver(1))
	if !slices.Equal(r.Up, []bool{true, false, true}) {
		t.Error(r.Up)
	}
	s.wantPlace("started", 0, 0, impl.Place{State: impl.StFrozen, Epoch: 1, Try: 2, Acc: wideAccount()})
}

// The greatest accounts that a script can make, carried over as often as it
// can: no script fills a log, so all of it is written down.
func TestLongLogs(t *testing.T) {
	var l []impl.Action
	for _, box := range []string{"a", "b", "c", "d"} {
		l = append(l, said(0, 0, "CREATE "+box), deliver(0), lose(0))
		for range impl.MaxMsgs {
			l = append(l, said(0, 0, "APPEND "+box+` (SAFDR) "a text of thirty bytes, it is "`), deliver(0), lose(0))
		}
	}
	moves := 0
	for len(l)+12 <= impl.MaxScript {
		moves++
		l = append(l, move(0, moves%2), lose(0), lose(0))
		l = append(l, times(6, deliver(0))...)
	}
	r := checkRun(t, 2, l)
	checkFollows(t, 2, l, r)
	checkSettled(t, 2, l)
	p := r.Houses[moves%2].Places[0]
	if p.State != impl.StServing || p.Epoch != moves+1 || len(p.Acc.Seen) != 52 || len(p.Acc.Boxes[3].Mails) != impl.MaxMsgs {
		t.Errorf("behind %d moves: %v", moves, p)
	}
	if again := checkRun(t, 2, append(slices.Clone(l), crash(0), crash(1), crash(2))); !slices.EqualFunc(again.Houses, r.Houses, sameHouse) {
		t.Error("the houses are not what their logs say")
	}
}
