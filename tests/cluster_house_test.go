package tests

import (
	"slices"
	"strconv"
	"testing"

	"loop.example/g00359/impl"
)

// Run, houses: what a house does with a command, at each state of its place.

// movedTo is a script of two houses that brings the first user's move from
// house 0 to 1 to its end but for so many of its last steps: of what is told
// behind the cut, the drop comes first, the grant last.
func movedTo(steps int) []impl.Action {
	l := []impl.Action{move(0, 1), lose(0), lose(0), deliver(0), deliver(0), deliver(0), deliver(0), deliver(0), deliver(0)}
	return l[:len(l)-steps]
}

func TestCommandsAtEachState(t *testing.T) {
	for _, x := range []struct {
		why   string
		left  int
		house int
		state int
	}{
		{"serving", 9, 0, impl.StServing}, {"nothing", 9, 1, impl.StNone},
		{"frozen", 5, 0, impl.StFrozen}, {"nothing yet", 5, 1, impl.StNone},
		{"installed", 3, 1, impl.StInstalled}, {"frozen, installed elsewhere", 3, 0, impl.StFrozen},
		{"frozen, and cut", 2, 0, impl.StFrozen}, {"installed, and cut", 2, 1, impl.StInstalled},
		{"dropped", 0, 0, impl.StNone}, {"granted", 0, 1, impl.StServing},
	} {
		for _, c := range goodCmds() {
			s := newScene(t, 2, movedTo(x.left)...)
			before := impl.Run(2, s.l, false)
			p := before.Houses[x.house].Places[0]
			if p.State != x.state {
				t.Fatalf("%s: State %d", x.why, p.State)
			}
			_, want := plainDo(impl.Account{}, c)
			if x.state != impl.StServing {
				want = away()
			}
			s.play(impl.Action{Kind: impl.AcCmd, Node: x.house, Cmd: c})
			s.play(deliver(before.Net))
			after := s.play(deliver(before.Net))
			now := len(s.l)
			s.wantCall(x.why, 1, now, want)
			s.wantNet(x.why, before.Net)
			if x.state != impl.StServing {
				s.wantDeeds(x.why)
				s.wantPlace(x.why, x.house, 0, p)
				continue
			}
			deed := impl.Deed{At: now - 1, Call: 1, Node: x.house, Epoch: p.Epoch, Cmd: c, Reply: want}
			if len(after.Deeds) != 1 || !sameDeed(after.Deeds[0], deed) {
				t.Errorf("%s: deeds %v, want %v", x.why, after.Deeds, deed)
			}
			p.Acc, _ = plainDo(p.Acc, c)
			if mayChange(c.Kind) {
				p.Acc.Seen = []int{1}
			}
			s.wantPlace(x.why, x.house, 0, p)
		}
	}
}

func TestUsersBeginAtTheirHouses(t *testing.T) {
	for houses := 1; houses <= impl.MaxHouses; houses++ {
		for user := range impl.MaxUsers {
			for house := range houses {
				s := newScene(t, houses, said(house, user, "CREATE in"), deliver(0), deliver(0))
				if house == user%houses {
					s.wantCall("its own house", 1, 3, num(1))
					s.wantPlace("its own house", house, user, impl.Place{State: impl.StServing, Epoch: 1, Acc: impl.Account{
						Valid: 1, Boxes: []impl.Box{{Name: []byte("in"), Valid: 1, Next: 1}}, Seen: []int{1}}})
				} else {
					s.wantCall("another house", 1, 3, away())
					s.wantPlace("another house", house, user, impl.Place{})
				}
			}
		}
	}
}

// Commands that can change nothing are done as often as they are heard; those
// that may, once, whether they are refused or change something or not.
func TestCommandsThatAreHeardTwice(t *testing.T) {
	ahead := []impl.Action{said(0, 0, "CREATE in"), deliver(0), deliver(0), said(0, 0, `APPEND in (D) "x"`), deliver(0), deliver(0)}
	for _, x := range []struct {
		line string
		want impl.Reply
	}{
		{"CREATE in", code(impl.RpExists)}, {"CREATE b", num(2)}, {"DELETE no", code(impl.RpNone)}, {"DELETE in", num(0)},
		{`APPEND in () ""`, num(2)}, {`APPEND no () ""`, code(impl.RpNone)}, {"STORE in 1 IS (D)", num(1)}, {"STORE in 1 WITH (S)", num(2)},
		{"EXPUNGE in", num(1)}, {"EXPUNGE no", code(impl.RpNone)}, {"COPY in 1 in AWAY", num(2)}, {"COPY in 2 in", code(impl.RpNone)},
	} {
		s := newScene(t, 2, append(ahead[:6:6], said(0, 0, x.line), double(0), double(0), deliver(1))...)
		s.play()
		s.wantNet("the call alone", 1)
		s.wantCall(x.line, 3, 10, x.want)
		s.wantDeeds(x.line, 1, 2, 3)
		place := impl.Run(2, s.l, false).Houses[0].Places[0]
		if !slices.Equal(place.Acc.Seen, []int{1, 2, 3}) {
			t.Errorf("%s: Seen %v", x.line, place.Acc.Seen)
		}
		s.play(crash(0), start(0), deliver(0))
		s.wantPlace("seen ahead of a fall, too", 0, 0, place)
		s.wantNet("nothing is sent", 0)
		s.wantDeeds(x.line, 1, 2, 3)
	}
	for _, line := range []string{"FETCH in 1", "FETCH in 2", "FETCH no 1", "STATUS in", "STATUS no", "CHANGES in 0", "CHANGES in 1", "CHANGES no 0", "LIST"} {
		s := newScene(t, 2, append(ahead[:6:6], said(0, 0, line))...)
		place := impl.Run(2, s.l, false).Houses[0].Places[0]
		_, want := plainDo(place.Acc, said(0, 0, line).Cmd)
		s.play(double(0), double(0), deliver(0))
		s.wantNet("three replies", 3)
		s.wantDeeds(line, 1, 2, 3, 3, 3)
		s.wantPlace(line, 0, 0, place)
		s.play(deliver(2), deliver(0), deliver(0))
		s.wantCall(line, 3, 11, want)
	}
}

// A call that is heard again where its user went is not done again: what was
// seen is carried over.
func TestCallsAreSeenWhereTheUserGoes(t *testing.T) {
	s := newScene(t, 2, said(0, 0, "CREATE in"), double(0), lose(1))
	s.play(move(0, 1), deliver(3), deliver(3), deliver(3), deliver(3), deliver(3), deliver(3))
	s.wantState("moved", 0, 0, impl.StNone, 2, 2)
	s.play(deliver(3))
	want := impl.Place{State: impl.StServing, Epoch: 2, Acc: impl.Account{Valid: 1, Boxes: []impl.Box{{Name: []byte("in"), Valid: 1, Next: 1}}, Seen: []int{1}}}
	s.wantPlace("moved", 1, 0, want)
	// Back to house 0, where the call still is on its way.
	s.play(move(0, 0), deliver(5), deliver(5), deliver(5), deliver(5), deliver(5), deliver(5))
	want.Epoch, want.Try = 3, 2
	s.wantPlace("moved back", 0, 0, want)
	s.play(deliver(0))
	s.wantPlace("heard again", 0, 0, want)
	s.wantDeeds("once", 1)
	s.wantCall("its reply was lost", 1, -1, impl.Reply{})
}

// fullOfCalls are MaxSeen calls that may change something, all heard.
func fullOfCalls() []impl.Action {
	var l []impl.Action
	for range impl.MaxSeen {
		l = append(l, said(0, 0, "EXPUNGE no"), deliver(0), deliver(0))
	}
	return l
}

func TestMaxSeenCalls(t *testing.T) {
	s := newScene(t, 2, fullOfCalls()...)
	r := s.play()
	if len(r.Deeds) != impl.MaxSeen || len(r.Houses[0].Places[0].Acc.Seen) != impl.MaxSeen {
		t.Fatalf("%d deeds, Seen %v", len(r.Deeds), r.Houses[0].Places[0].Acc.Seen)
	}
	s.wantCall("the last one that has room", impl.MaxSeen, 180, code(impl.RpNone))
	for i, line := range []string{"EXPUNGE no", "CREATE in", "COPY a 1 b"} {
		s.play(said(0, 0, line), double(0), deliver(0), deliver(0), deliver(0))
		s.wantCall("one more", impl.MaxSeen+1+i, len(s.l)-1, away())
	}
	s.wantPlace("nothing is done", 0, 0, r.Houses[0].Places[0])
	s.play(said(0, 0, "LIST"), deliver(0), deliver(0))
	s.wantCall("what can change nothing is done", impl.MaxSeen+4, len(s.l), impl.Reply{})
	// Another user of the same house has room, and so has this one nowhere.
	s.play(said(0, 2, "CREATE in"), deliver(0), deliver(0))
	s.wantCall("another user", impl.MaxSeen+5, len(s.l), num(1))
	s.play(move(0, 1))
	s.hush()
	s.wantState("moved", 1, 0, impl.StServing, 2, 0)
	s.play(said(1, 0, "CREATE in"), deliver(0), deliver(0))
	s.wantCall("where it went", impl.MaxSeen+6, len(s.l), away())
}

// A call that is in Seen is passed over even where MaxSeen are there.
func TestSeenCallsAmongMaxSeen(t *testing.T) {
	l := append([]impl.Action{said(0, 0, "EXPUNGE no"), double(0), lose(1)}, fullOfCalls()[3:]...)
	for i := range l[3:] {
		if l[3+i].Kind == impl.AcDeliver {
			l[3+i].I = 1
		}
	}
	s := newScene(t, 2, l...)
	r := s.play()
	if len(r.Deeds) != impl.MaxSeen || r.Net != 1 {
		t.Fatalf("%d deeds, %d messages", len(r.Deeds), r.Net)
	}
	s.play(deliver(0))
	s.wantNet("nothing is sent", 0)
	s.wantCall("its reply was lost", 1, -1, impl.Reply{})
}

// Deeds are told with the Epoch of the place, At the time of hearing.
func TestDeedsTellWhenAndWhere(t *testing.T) {
	s := newScene(t, 3, tick(), said(2, 2, "CREATE in"), lose(0), lose(0), deliver(7), said(2, 2, "LIST"), tick(), deliver(8))
	r := s.play()
	want := []impl.Deed{
		{At: 5, Call: 1, User: 2, Node: 2, Epoch: 1, Cmd: createCmd("in"), Reply: num(1)},
		{At: 8, Call: 2, User: 2, Node: 2, Epoch: 1, Cmd: impl.Cmd{Kind: impl.CmList}, Reply: impl.Reply{Names: [][]byte{[]byte("in")}}},
	}
	if !slices.EqualFunc(r.Deeds, want, sameDeed) {
		t.Errorf("%v, want %v", r.Deeds, want)
	}
}

// All codes that Do answers reach who called.
func TestRepliesOfCommands(t *testing.T) {
	s := newScene(t, 1)
	a := impl.Account{}
	met := map[int]int{}
	lines := []string{"CREATE a", "CREATE a", "CREATE b", "CREATE c", "CREATE d", "CREATE e", "DELETE e", "LIST", "STATUS a", "STORE a 1 IS ()"}
	for i := range impl.MaxMsgs + 1 {
		lines = append(lines, `APPEND a (D) "mail `+strconv.Itoa(i)+`"`)
	}
	lines = append(lines, "STORE a 3 WITH (S) SINCE 2", "CHANGES a 11", "FETCH a 12", "COPY a 1 b", "COPY a 2 c AWAY", "EXPUNGE a", "EXPUNGE a", "CHANGES a 0", "LIST")
	for i, line := range lines {
		s.l = append(s.l, said(0, 1, line), deliver(0), deliver(0))
		var want impl.Reply
		a, want = plainDo(a, said(0, 1, line).Cmd)
		s.wantCall(line, i+1, 3*i+3, want)
		met[want.Code]++
	}
	s.play()
	for _, c := range []int{impl.RpWell, impl.RpNone, impl.RpExists, impl.RpFull, impl.RpStale} {
		if met[c] == 0 {
			t.Errorf("no reply has code %d", c)
		}
	}
}
