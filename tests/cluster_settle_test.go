package tests

import (
	"slices"
	"testing"

	"loop.example/g00359/impl"
)

// Run, settled: when it is quiet, and what the end tells.

func TestRoundsUntilItIsQuiet(t *testing.T) {
	frozen := []impl.Action{move(0, 1), lose(0), lose(0), deliver(0)}
	cut := append(slices.Clone(frozen), deliver(0), deliver(0), deliver(0))
	for _, x := range []struct {
		why    string
		houses int
		l      []impl.Action
		rounds int
	}{
		{"nothing was done", 3, nil, 0},
		{"one house", 1, []impl.Action{said(0, 0, "CREATE in")}, 0},
		{"a call in the net", 2, []impl.Action{said(0, 0, "CREATE in")}, 0},
		{"MaxNet messages in the net", 2, times(300, said(0, 0, "CREATE in")), 0},
		{"a move in the net", 2, []impl.Action{move(0, 1)}, 0},
		{"three moves in the net", 3, []impl.Action{move(0, 1), move(1, 2), move(2, 0)}, 0},
		{"a row is Moving", 2, []impl.Action{move(0, 1), lose(0), lose(0), lose(0)}, 1},
		{"the last row is Moving", 3, []impl.Action{move(2, 1), lose(0), lose(0), lose(0), lose(0)}, 1},
		{"MsFrozen in the net", 2, frozen, 0},
		{"MsFrozen is lost", 2, append(slices.Clone(frozen), lose(0)), 1},
		{"MsInstalled is lost", 2, append(slices.Clone(frozen), deliver(0), deliver(0), lose(0)), 1},
		{"broken off, MsThaw in the net", 2, append(slices.Clone(frozen), abort(0)), 0},
		{"broken off, MsThaw lost: the Owner is StFrozen", 2, append(slices.Clone(frozen), abort(0), lose(3)), 1},
		{"MsDrop and MsGrant in the net", 2, cut, 0},
		{"MsGrant is lost: the Owner is StInstalled", 2, append(slices.Clone(cut), lose(1)), 1},
		{"MsDrop is lost: another one is StFrozen", 2, append(slices.Clone(cut), lose(0)), 1},
		{"all of both are lost", 2, append(slices.Clone(cut), lose(0), lose(0)), 1},
		{"moved", 2, movedTo(0), 0},
		{"another one is StInstalled", 2, append(slices.Clone(frozen), deliver(0), deliver(0), abort(0)), 0},
		{"all are down", 3, []impl.Action{crash(0), crash(1), crash(2), crash(3)}, 0},
		{"the keeper is down, with a call in the net", 2, []impl.Action{said(0, 0, "CREATE in"), crash(2)}, 0},
		{"what was told was lost on one that is down", 2, []impl.Action{move(0, 1), crash(0), deliver(0), deliver(0), deliver(0)}, 1},
		{"fuses", 2, []impl.Action{fuse(0, 0), fuse(1, 0), fuse(2, 0), said(0, 0, "CREATE in"), said(1, 1, "CREATE in")}, 0},
		{"fuses, that burnt", 2, []impl.Action{fuse(2, 99), move(0, 1)}, 1},
		{"fuses, that burnt, and nothing was kept", 2, []impl.Action{fuse(2, 0), move(0, 1)}, 0},
	} {
		r := checkSettledScript(t, x.houses, x.l)
		if r.Rounds != x.rounds {
			t.Errorf("%s: %d rounds, want %d", x.why, r.Rounds, x.rounds)
		}
	}
}

// checkSettledScript answers the settled end.
func checkSettledScript(t *testing.T, houses int, l []impl.Action) impl.Result {
	t.Helper()
	checkRun(t, houses, l)
	checkSettled(t, houses, l)
	return impl.Run(houses, l, true)
}

// Time goes on by one with each message that is heard.
func TestTimeWhileItSettles(t *testing.T) {
	r := checkSettledScript(t, 2, []impl.Action{said(0, 0, "CREATE in"), said(1, 0, "LIST"), said(1, 1, "LIST")})
	for i, want := range []impl.Call{
		{Cmd: createCmd("in"), From: 1, To: 7, Reply: num(1)},
		{Node: 1, Cmd: impl.Cmd{Kind: impl.CmList}, From: 2, To: 8, Reply: away()},
		{User: 1, Node: 1, Cmd: impl.Cmd{Kind: impl.CmList}, From: 3, To: 9},
	} {
		if !sameCall(r.Calls[i], want) {
			t.Errorf("call %d: %v, want %v", i+1, r.Calls[i], want)
		}
	}
	if len(r.Deeds) != 2 || r.Deeds[0].At != 4 || r.Deeds[1].At != 6 {
		t.Errorf("deeds %v", r.Deeds)
	}
	// Behind a round in which nothing was heard, too: a tell is no time.
	r = checkSettledScript(t, 2, []impl.Action{move(0, 1), lose(0), lose(0), lose(0), said(0, 0, "CREATE in"), said(1, 1, "LIST"), deliver(1), lose(1)})
	if r.Rounds != 1 || len(r.Calls) != 2 || r.Calls[0].To != 10 || r.Deeds[1].At != 9 || r.Calls[1].To != -1 {
		t.Errorf("%v, %v", r.Calls, r.Deeds)
	}
}

// The first message is heard first: a call stands behind the freeze or ahead
// of it as it came.
func TestOrderWhileItSettles(t *testing.T) {
	r := checkSettledScript(t, 2, []impl.Action{said(0, 0, "CREATE in"), move(0, 1), said(0, 0, "CREATE out")})
	if r.Calls[0].Reply.Code != impl.RpWell || r.Calls[1].Reply.Code != impl.RpAway {
		t.Errorf("%v", r.Calls)
	}
	if p := r.Houses[1].Places[0]; !samePlace(p, impl.Place{State: impl.StServing, Epoch: 2, Acc: oneBox()}) {
		t.Errorf("%v", p)
	}
}

// Both kinds of end of one script: down, with fuses, in the midst of a move.
func TestBothKindsOfEnd(t *testing.T) {
	l := []impl.Action{
		said(0, 0, "CREATE in"), deliver(0), deliver(0), move(0, 1), lose(0), lose(0), deliver(0), crash(1), crash(2), deliver(0),
		said(0, 2, "CREATE a"), fuse(0, 0), said(1, 1, "CREATE b"),
	}
	r := checkRun(t, 2, l)
	want := impl.Result{
		Ok: true, Deeds: r.Deeds[:1], Calls: r.Calls[:3], Net: 2, Up: []bool{true, false, false},
		Houses: []impl.House{
			{Id: 0, Places: []impl.Place{{State: impl.StFrozen, Epoch: 1, Try: 2, Acc: oneBox()}, {}, {State: impl.StServing, Epoch: 1}}},
			{Id: 1, Places: []impl.Place{{}, {State: impl.StServing, Epoch: 1}, {}}},
		},
		Book: impl.Book{Rows: []impl.Row{{Epoch: 1, Moving: true, Try: 2, Target: 1}, {Epoch: 1, Owner: 1}, {Epoch: 1}}},
	}
	if !sameResult(r, want) {
		t.Errorf("as it is: %v, want %v", r, want)
	}
	box := func(name string, call int) impl.Account {
		return impl.Account{Valid: 1, Boxes: []impl.Box{{Name: []byte(name), Valid: 1, Next: 1}}, Seen: []int{call}}
	}
	r = checkSettledScript(t, 2, l)
	want = impl.Result{
		Ok: true, Deeds: r.Deeds[:3], Calls: r.Calls[:3], Rounds: 1, Up: []bool{true, true, true},
		Houses: []impl.House{
			{Id: 0, Places: []impl.Place{{Epoch: 2, Try: 2}, {}, {State: impl.StServing, Epoch: 1, Acc: box("a", 2)}}},
			{Id: 1, Places: []impl.Place{{State: impl.StServing, Epoch: 2, Acc: oneBox()}, {State: impl.StServing, Epoch: 1, Acc: box("b", 3)}, {}}},
		},
		Book: impl.Book{Rows: []impl.Row{{Epoch: 2, Owner: 1, Try: 2, Target: 1}, {Epoch: 1, Owner: 1}, {Epoch: 1}}},
	}
	if !sameResult(r, want) {
		t.Errorf("settled: %v, want %v", r, want)
	}
}
