package tests

import (
	"reflect"
	"testing"

	"loop.example/g00359/impl"
)

// Every answer is new memory, of the cluster too.

type actionArgs struct{ A impl.Action }

type runArgs struct {
	Houses int
	Script []impl.Action
	Settle bool
}

type followArgs struct{ L []impl.Deed }

type answeredArgs struct {
	Calls []impl.Call
	Deeds []impl.Deed
}

type followAnswer struct {
	L  []impl.Account
	At int
}

func callActionOk(args any) any { return okAnswer{impl.ActionOk(args.(actionArgs).A)} }

func callRun(args any) any {
	x := args.(runArgs)
	return impl.Run(x.Houses, x.Script, x.Settle)
}

func callFollow(args any) any {
	l, at := impl.Follow(args.(followArgs).L)
	return followAnswer{l, at}
}

func callAnswered(args any) any {
	x := args.(answeredArgs)
	return okAnswer{impl.Answered(x.Calls, x.Deeds)}
}

// tellingScript has replies of every kind, doubled calls and replies, a move,
// and what is not heard.
func tellingScript() []impl.Action {
	var l []impl.Action
	for _, line := range []string{"CREATE in", `APPEND in (D) "x"`, `APPEND in () ""`, "FETCH in 1", "CHANGES in 0", "LIST", "EXPUNGE in", "STATUS in", "COPY in 2 in", "CHANGES in 2"} {
		l = append(l, said(0, 0, line), double(0), deliver(0), double(0), deliver(0), deliver(0))
	}
	l = append(l, said(1, 0, `APPEND in () "away"`), deliver(0), deliver(0), move(0, 1), deliver(0), deliver(0), deliver(0), double(0))
	return append(l, deliver(0), deliver(0), deliver(0), deliver(0), said(1, 0, "LIST"))
}

func TestEndsAreNewMemory(t *testing.T) {
	l := tellingScript()
	for n := 0; n <= len(l); n += 3 {
		for _, settle := range []bool{false, true} {
			checkAnswerApart(t, "Run", runArgs{2, l[:n], settle}, callRun)
		}
	}
	checkAnswerApart(t, "Run", runArgs{2, l, true}, callRun)
	checkAnswerApart(t, "Run, all down", runArgs{2, append(l[:len(l):len(l)], crash(0), crash(1), crash(2)), false}, callRun)
	checkAnswerApart(t, "Run, refused", runArgs{0, l, true}, callRun)
	checkAnswerApart(t, "Run, refused", runArgs{2, append(l[:len(l):len(l)], impl.Action{}), true}, callRun)
	eachDrawn(137, 2, func(draw func(int) int, houses int, l []impl.Action, p *plainCluster) {
		l = l[:min(len(l), 100)]
		checkAnswerApart(t, "Run", runArgs{houses, l, false}, callRun)
		checkAnswerApart(t, "Run", runArgs{houses, l, true}, callRun)
	})
}

func TestFollowedAccountsAreNewMemory(t *testing.T) {
	checkAnswerApart(t, "Follow", followArgs{nil}, callFollow)
	l := someDeeds()
	for n := range len(l) + 1 {
		checkAnswerApart(t, "Follow", followArgs{l[:n]}, callFollow)
		bad := append(l[:n:n], impl.Deed{User: impl.MaxUsers})
		checkAnswerApart(t, "Follow, refused", followArgs{bad}, callFollow)
		bad = append(l[:n:n], impl.Deed{Cmd: createCmd("a"), Reply: away()})
		checkAnswerApart(t, "Follow, another reply", followArgs{bad}, callFollow)
	}
}

func TestAskedActionsAndCallsStayAsTheyAre(t *testing.T) {
	for kind := -1; kind <= impl.AcAbort+1; kind++ {
		checkAnswerApart(t, "ActionOk", actionArgs{actionOfKind(kind)}, callActionOk)
	}
	x := goodAsked()
	checkAnswerApart(t, "Answered", answeredArgs{x.calls, x.deeds}, callAnswered)
	x.deeds[5].Epoch = 1
	checkAnswerApart(t, "Answered, refused", answeredArgs{x.calls, x.deeds}, callAnswered)
	r := impl.Run(2, tellingScript(), true)
	checkAnswerApart(t, "Answered", answeredArgs{r.Calls, r.Deeds}, callAnswered)
	checkAnswerApart(t, "Answered of nothing", answeredArgs{}, callAnswered)
}

// What lies behind a list is not read: neither more actions, nor more deeds or
// calls, nor more bytes.
func TestRoomBehindScriptsAndDeedsIsNotRead(t *testing.T) {
	l := append(tellingScript(), impl.Action{Kind: -1})
	for n := 0; n < len(l); n += 5 {
		if r := checkRun(t, 2, l[:n]); !r.Ok {
			t.Errorf("what lies behind %d actions is read", n)
		}
	}
	x := goodAsked()
	x.deeds = append(x.deeds, impl.Deed{})
	if !impl.Answered(x.calls, x.deeds[:6]) || impl.Answered(x.calls, x.deeds) || impl.Answered(x.calls[:5], x.deeds[:6]) {
		t.Error("what lies behind calls or deeds is read")
	}
	deeds := append(someDeeds(), impl.Deed{User: -1})
	if _, at := impl.Follow(deeds[:len(deeds)-1]); at != -1 {
		t.Errorf("what lies behind deeds is read: %d", at)
	}
}

// Commands of several actions that are one memory come out apart.
func TestScriptsThatShareMemory(t *testing.T) {
	name, text := []byte("in"), []byte("text")
	l := []impl.Action{
		{Cmd: impl.Cmd{Kind: impl.CmCreate, Box: name}}, deliver(0), deliver(0),
		{Cmd: impl.Cmd{Kind: impl.CmAppend, Box: name, Text: text}}, deliver(0), deliver(0),
		{Cmd: impl.Cmd{Kind: impl.CmCopy, Box: name, To: name, Uid: 1}}, deliver(0), deliver(0),
		{Cmd: impl.Cmd{Kind: impl.CmFetch, Box: name, Uid: 2}}, double(0), double(0), deliver(1), deliver(1),
		move(0, 1), deliver(1), deliver(1), deliver(1), deliver(1),
	}
	for n := range len(l) + 1 {
		for _, settle := range []bool{false, true} {
			r := impl.Run(2, l[:n], settle)
			got := pieces(reflect.ValueOf(r))
			for i, x := range got {
				for _, y := range append(got[:i:i], pieces(reflect.ValueOf(l))...) {
					if x.from < y.to && y.from < x.to {
						t.Fatalf("behind %d actions: a list of the end shares memory", n)
					}
				}
			}
		}
	}
}

// Nothing is kept from one call to another.
func TestEndsAreNotKept(t *testing.T) {
	l := tellingScript()
	first := impl.Run(2, l, true)
	scribble(reflect.ValueOf(&first).Elem())
	checkRun(t, 2, l)
	deeds := someDeeds()
	accounts, _ := impl.Follow(deeds)
	scribble(reflect.ValueOf(&accounts).Elem())
	checkFollow(t, "again", deeds, followed(someDeeds()), -1)
	// One script that is cut off in its midst, and another one ahead of it.
	checkRun(t, 3, []impl.Action{crash(0), move(1, 2), said(0, 0, "CREATE in")})
	checkRun(t, 3, nil)
}
