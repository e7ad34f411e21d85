package tests

import (
	"math"
	"testing"

	"loop.example/g00359/impl"
)

// ActionOk: what may be in a script.

func checkAction(t *testing.T, why string, a impl.Action, want bool) {
	t.Helper()
	if impl.ActionOk(a) != want {
		t.Errorf("%s: ActionOk(%v) is not %v", why, a, want)
	}
	if r := impl.Run(2, []impl.Action{a}, false); r.Ok != want {
		t.Errorf("%s: Run of %v alone has Ok %v", why, a, r.Ok)
	}
}

// actionOfKind has the command that its kind wants.
func actionOfKind(kind int) impl.Action {
	a := impl.Action{Kind: kind, Node: 1, I: 5, User: 2}
	if kind == impl.AcCmd {
		a.Cmd = createCmd("in")
	}
	return a
}

func TestActionConstants(t *testing.T) {
	got := []int{
		impl.AcCmd, impl.AcDeliver, impl.AcDouble, impl.AcDrop, impl.AcTick, impl.AcCrash, impl.AcFuse, impl.AcStart, impl.AcMove, impl.AcAbort,
		impl.MsCmd, impl.MsReply, impl.MsFreeze, impl.MsFrozen, impl.MsInstall, impl.MsInstalled, impl.MsGrant, impl.MsDrop, impl.MsThaw,
		impl.MaxScript, impl.MaxNet,
	}
	want := []int{0, 1, 2, 3, 4, 5, 6, 7, 8, 9, 0, 1, 2, 3, 4, 5, 6, 7, 8, 300, 60}
	for i := range want {
		if got[i] != want[i] {
			t.Fatal(got)
		}
	}
}

func TestActionOkOfKinds(t *testing.T) {
	for kind := impl.AcCmd; kind <= impl.AcAbort; kind++ {
		checkAction(t, "as it is", actionOfKind(kind), true)
	}
	for _, kind := range []int{math.MinInt, -1, impl.AcAbort + 1, math.MaxInt} {
		checkAction(t, "a kind that there is not", actionOfKind(kind), false)
		checkAction(t, "all else zero", impl.Action{Kind: kind}, false)
		checkAction(t, "with a command", impl.Action{Kind: kind, Cmd: createCmd("in")}, false)
	}
}

func TestActionOkOfNumbers(t *testing.T) {
	for kind := impl.AcCmd; kind <= impl.AcAbort; kind++ {
		for _, n := range []int{math.MinInt, -1, 0, 1, 2, 3, 4, impl.MaxNum - 1, impl.MaxNum, impl.MaxNum + 1, math.MaxInt} {
			a := actionOfKind(kind)
			a.Node = n
			checkAction(t, "Node", a, n >= 0 && n <= 3)
			a = actionOfKind(kind)
			a.I = n
			checkAction(t, "I", a, n >= 0 && n <= 2147483647)
			a = actionOfKind(kind)
			a.User = n
			checkAction(t, "User", a, n >= 0 && n <= 2)
		}
		checkAction(t, "all at their limits", impl.Action{Kind: kind, Node: impl.MaxHouses, I: impl.MaxNum, User: impl.MaxUsers - 1, Cmd: actionOfKind(kind).Cmd}, true)
	}
}

func TestActionOkOfCommands(t *testing.T) {
	checkAction(t, "no command", impl.Action{Kind: impl.AcCmd}, false)
	met := map[bool]int{}
	for _, good := range goodCmds() {
		checkAction(t, "a good command", impl.Action{Kind: impl.AcCmd, Cmd: good}, true)
		for _, c := range variants(good) {
			want := plainCmdOk(c)
			checkAction(t, "a command at its edges", impl.Action{Kind: impl.AcCmd, Cmd: c}, want)
			met[want]++
		}
	}
	if met[true] < 100 || met[false] < 100 {
		t.Fatal(met)
	}
}

func TestActionOkWantsNoOtherCommands(t *testing.T) {
	for kind := impl.AcDeliver; kind <= impl.AcAbort; kind++ {
		for _, c := range append(partCmds(), goodCmds()...) {
			a := actionOfKind(kind)
			a.Cmd = c
			checkAction(t, "a command more", a, false)
		}
		a := actionOfKind(kind)
		a.Cmd = impl.Cmd{Box: []byte{}, To: []byte{}, Text: []byte{}}
		checkAction(t, "empty lists", a, true)
	}
}

func checkRefusedRun(t *testing.T, why string, houses int, script []impl.Action) {
	t.Helper()
	for _, settle := range []bool{false, true} {
		if r := impl.Run(houses, script, settle); !sameResult(r, impl.Result{}) {
			t.Errorf("%s: Run(%d, .., %v) answers %v", why, houses, settle, r)
		}
	}
}

func TestRunWantsHouses(t *testing.T) {
	scripts := [][]impl.Action{nil, {}, {tick()}, {said(0, 0, "LIST"), deliver(0)}}
	for _, script := range scripts {
		for _, houses := range []int{math.MinInt, -1, 0, impl.MaxHouses + 1, impl.MaxHouses + 2, math.MaxInt} {
			checkRefusedRun(t, "houses", houses, script)
		}
		for houses := 1; houses <= impl.MaxHouses; houses++ {
			if r := checkRun(t, houses, script); !r.Ok || len(r.Houses) != houses || len(r.Up) != houses+1 {
				t.Errorf("Run(%d, %v, false) answers %v", houses, script, r)
			}
		}
	}
}

func TestRunWantsNoMoreThanMaxScript(t *testing.T) {
	for _, a := range []impl.Action{tick(), deliver(0), said(1, 0, "LIST"), crash(0), move(0, 1)} {
		for houses := 1; houses <= impl.MaxHouses; houses++ {
			if r := checkRun(t, houses, times(impl.MaxScript, a)); !r.Ok {
				t.Errorf("MaxScript of %v are refused", a)
			}
			checkRefusedRun(t, "one more than MaxScript", houses, times(impl.MaxScript+1, a))
			checkRefusedRun(t, "many more than MaxScript", houses, times(2000, a))
		}
	}
}

func TestRunWantsActions(t *testing.T) {
	good := []impl.Action{said(0, 0, "CREATE in"), deliver(0), deliver(0)}
	bad := []impl.Action{
		{Kind: -1}, {Kind: impl.AcAbort + 1}, {Kind: impl.AcTick, Node: -1}, {Kind: impl.AcTick, Node: impl.MaxHouses + 1},
		{Kind: impl.AcTick, I: -1}, {Kind: impl.AcTick, I: impl.MaxNum + 1}, {Kind: impl.AcTick, User: -1},
		{Kind: impl.AcTick, User: impl.MaxUsers}, {Kind: impl.AcTick, Cmd: createCmd("in")}, {}, {Cmd: createCmd("IN")},
	}
	for _, a := range bad {
		for houses := 1; houses <= impl.MaxHouses; houses++ {
			checkRefusedRun(t, "alone", houses, []impl.Action{a})
			for at := range len(good) + 1 {
				l := append(append(append([]impl.Action(nil), good[:at]...), a), good[at:]...)
				checkRefusedRun(t, "among others", houses, l)
			}
			last := append(times(impl.MaxScript-1, tick()), a)
			checkRefusedRun(t, "the last of MaxScript", houses, last)
		}
	}
	if r := checkRun(t, 1, good); !r.Ok || len(r.Deeds) != 1 {
		t.Error("a good script is refused")
	}
}

// A Node that may be, but that there is not here, is no reason to refuse.
func TestRunTakesNodesThatThereAreNot(t *testing.T) {
	for kind := impl.AcCmd; kind <= impl.AcAbort; kind++ {
		a := actionOfKind(kind)
		a.Node = impl.MaxHouses
		for houses := 1; houses <= impl.MaxHouses; houses++ {
			if r := checkRun(t, houses, []impl.Action{a}); !r.Ok {
				t.Errorf("%v is refused with %d houses", a, houses)
			}
		}
	}
}

func TestEmptyScript(t *testing.T) {
	for houses := 1; houses <= impl.MaxHouses; houses++ {
		want := impl.Result{Ok: true, Book: plainFirstBook(houses), Up: []bool{true}}
		for id := range houses {
			want.Houses = append(want.Houses, plainFirstHouse(id, houses))
			want.Up = append(want.Up, true)
		}
		for _, settle := range []bool{false, true} {
			for _, script := range [][]impl.Action{nil, {}} {
				if r := impl.Run(houses, script, settle); !sameResult(r, want) {
					t.Errorf("Run(%d, nothing, %v) answers\n%v, want\n%v", houses, settle, r, want)
				}
			}
		}
	}
}
