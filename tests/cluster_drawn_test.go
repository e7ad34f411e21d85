package tests

import (
	"slices"
	"testing"

	"loop.example/g00359/impl"
)

// Promises 9, 10 and 11, and what Run answers, behind any scripts: drawn ones
// that look at what is there, so that moves come to their end and commands
// meet who serves; and all short ones behind some beginnings.

// mood is how often, of a hundred actions, something is done.
type mood struct {
	calls  int
	moves  int
	aborts int
	ticks  int
	falls  int
	starts int
	fuses  int
	losses int
	twice  int
	mixed  int
	late   int
	users  int
}

func moods() []mood {
	return []mood{
		{calls: 20, moves: 6, aborts: 2, ticks: 2, users: 3},
		{calls: 20, moves: 8, aborts: 3, ticks: 4, mixed: 70, users: 2},
		{calls: 15, moves: 8, aborts: 3, ticks: 5, losses: 10, twice: 15, mixed: 40, users: 3},
		{calls: 15, moves: 6, aborts: 1, ticks: 6, falls: 5, starts: 20, fuses: 4, users: 2},
		{calls: 12, moves: 6, aborts: 2, ticks: 6, falls: 3, starts: 15, fuses: 8, losses: 4, twice: 8, mixed: 30, users: 1},
		{calls: 50, moves: 3, ticks: 1, twice: 20, users: 1},
		{calls: 4, moves: 10, aborts: 2, ticks: 1, twice: 12, late: 60, mixed: 20, users: 1},
		{calls: 4, moves: 10, aborts: 3, ticks: 1, twice: 20, losses: 10, late: 80, mixed: 10, users: 1},
		{calls: 3, moves: 15, aborts: 4, ticks: 2, twice: 20, losses: 30, mixed: 90, users: 1},
		{moves: 20, aborts: 6, twice: 25, late: 75, mixed: 30, users: 1},
		{calls: 2, moves: 12, aborts: 2, twice: 10, late: 85, mixed: 10, users: 1},
		{calls: 40, moves: 20, aborts: 10, ticks: 20, falls: 2, starts: 5, fuses: 3, users: 3},
	}
}

// drawnAction looks at the plain cluster as it is ahead of it.
func drawnAction(draw func(int) int, p *plainCluster, m mood) impl.Action {
	user, node := draw(m.users), draw(4)
	roll := draw(100)
	within := func(often int) bool {
		roll -= often
		return roll < 0
	}
	switch {
	case within(m.calls):
		return drawnCall(draw, p, user)
	case within(m.moves):
		return move(user, node)
	case within(m.aborts):
		return abort(user)
	case within(m.ticks):
		return tick()
	case within(m.falls):
		return crash(node)
	case within(m.fuses):
		return fuse(node, []int{0, draw(6), draw(30), draw(400)}[draw(4)])
	case within(m.starts):
		return start(node)
	}
	i := 0
	if draw(100) < m.mixed {
		i = draw(90)
	}
	if draw(100) < m.late {
		i = max(0, len(p.net)-1)
	}
	switch {
	case draw(100) < m.losses:
		return lose(i)
	case draw(100) < m.twice:
		return double(i)
	}
	return deliver(i)
}

// drawnCall is most often one to a house that serves the user.
func drawnCall(draw func(int) int, p *plainCluster, user int) impl.Action {
	node := draw(4)
	for id := range p.houses {
		if p.nodes[id].house.Places[user].State == impl.StServing && draw(4) > 0 {
			node = id
		}
	}
	var a impl.Account
	if node < p.houses {
		a = p.nodes[node].house.Places[user].Acc
	}
	return impl.Action{Kind: impl.AcCmd, Node: node, User: user, Cmd: drawnCmd(draw, a)}
}

func drawnScript(draw func(int) int, houses int, size int, m mood) ([]impl.Action, *plainCluster) {
	p := newPlainCluster(houses)
	var l []impl.Action
	for range size {
		a := drawnAction(draw, p, m)
		p.do(a)
		l = append(l, a)
	}
	return l, p
}

func eachDrawn(seed uint32, lives int, show func(draw func(int) int, houses int, l []impl.Action, p *plainCluster)) {
	draw := draws(seed)
	for range lives {
		for _, m := range moods() {
			houses := []int{1, 2, 2, 3, 3, 3}[draw(6)]
			size := []int{draw(40), draw(150), 250 + draw(51)}[draw(3)]
			l, p := drawnScript(draw, houses, size, m)
			show(draw, houses, l, p)
		}
	}
}

func TestDrawnScriptsAreThePlainClusters(t *testing.T) {
	met := map[meeting]int{}
	most, rounds := 0, map[int]int{}
	eachDrawn(101, 400, func(draw func(int) int, houses int, l []impl.Action, p *plainCluster) {
		checkRun(t, houses, l)
		for i, x := range p.rows() {
			most = max(most, x.Epoch)
			if i == 0 {
				rounds[impl.Run(houses, l, true).Rounds]++
			}
		}
		for k, n := range p.met {
			met[k] += n
		}
	})
	wantMeetings(t, met)
	if most < 10 || rounds[0] < 100 || rounds[1] < 100 {
		t.Errorf("scripts say little: Epoch %d, Rounds %v", most, rounds)
	}
}

// wantMeetings asks that each message was heard at each state at which it can
// be, with each Try and Epoch that it can have there; any stands where the
// document asks for none.
func wantMeetings(t *testing.T, met map[meeting]int) {
	t.Helper()
	const none, serving, frozen, installed, any = impl.StNone, impl.StServing, impl.StFrozen, impl.StInstalled, 9
	for _, x := range []meeting{
		{impl.MsCmd, none, any, any}, {impl.MsCmd, serving, any, any}, {impl.MsCmd, frozen, any, any}, {impl.MsCmd, installed, any, any},
		{impl.MsFreeze, none, -1, -1}, {impl.MsFreeze, none, 0, -1}, {impl.MsFreeze, serving, -1, 0}, {impl.MsFreeze, serving, 0, 0},
		{impl.MsFreeze, serving, 1, 0}, {impl.MsFreeze, serving, -1, -1}, {impl.MsFreeze, serving, 0, -1}, {impl.MsFreeze, frozen, -1, 0},
		{impl.MsFreeze, frozen, 0, 0}, {impl.MsFreeze, frozen, 1, 0}, {impl.MsFreeze, frozen, -1, -1}, {impl.MsFreeze, installed, 0, -1},
		{impl.MsFreeze, installed, 1, 0}, {impl.MsFreeze, installed, -1, -1}, {impl.MsThaw, installed, 1, any},
		{impl.MsThaw, none, -1, any}, {impl.MsThaw, serving, -1, any}, {impl.MsThaw, serving, 0, any}, {impl.MsThaw, serving, 1, any},
		{impl.MsThaw, frozen, -1, any}, {impl.MsThaw, frozen, 0, any}, {impl.MsThaw, frozen, 1, any}, {impl.MsThaw, installed, -1, any},
		{impl.MsGrant, none, any, -1}, {impl.MsGrant, serving, any, 0}, {impl.MsGrant, serving, any, -1}, {impl.MsGrant, frozen, any, 0},
		{impl.MsGrant, frozen, any, -1}, {impl.MsGrant, installed, any, 0}, {impl.MsGrant, installed, any, -1},
		{impl.MsDrop, none, any, -1}, {impl.MsDrop, none, any, 0}, {impl.MsDrop, none, any, 1}, {impl.MsDrop, serving, any, -1},
		{impl.MsDrop, frozen, any, -1}, {impl.MsDrop, frozen, any, 1}, {impl.MsDrop, installed, any, -1}, {impl.MsDrop, installed, any, 1},
		{impl.MsInstall, none, any, 1}, {impl.MsInstall, none, any, -1}, {impl.MsInstall, serving, any, 0}, {impl.MsInstall, serving, any, -1},
		{impl.MsInstall, frozen, any, 1}, {impl.MsInstall, frozen, any, 0}, {impl.MsInstall, frozen, any, -1},
		{impl.MsInstall, installed, any, 1}, {impl.MsInstall, installed, any, 0}, {impl.MsInstall, installed, any, -1},
		{impl.MsFrozen, 0, 0, any}, {impl.MsFrozen, 0, -1, any}, {impl.MsFrozen, 1, 0, any}, {impl.MsFrozen, 1, -1, any},
		{impl.MsInstalled, 0, 0, any}, {impl.MsInstalled, 0, -1, any}, {impl.MsInstalled, 1, 0, any}, {impl.MsInstalled, 1, -1, any},
	} {
		n := 0
		for k, many := range met {
			if k.kind == x.kind && k.state == x.state && (x.try == any || k.try == x.try) && (x.epoch == any || k.epoch == x.epoch) {
				n += many
			}
		}
		if n < 3 {
			t.Errorf("%d messages of kind %d were heard at state %d with Try %d, Epoch %d", n, x.kind, x.state, x.try, x.epoch)
		}
	}
}

// checkFollows is promise 9.
func checkFollows(t *testing.T, houses int, l []impl.Action, r impl.Result) []impl.Account {
	t.Helper()
	accounts, at := impl.Follow(r.Deeds)
	if at != -1 {
		t.Fatalf("%d houses, %v: deed %d does not follow", houses, l, at)
	}
	if !impl.Answered(r.Calls, r.Deeds) {
		t.Fatalf("%d houses, %v: Answered is false of %v and %v", houses, l, r.Calls, r.Deeds)
	}
	return accounts
}

// checkSettled is promise 10, and 9 of that end.
func checkSettled(t *testing.T, houses int, l []impl.Action) {
	t.Helper()
	r := impl.Run(houses, l, true)
	accounts := checkFollows(t, houses, l, r)
	if r.Rounds >= 30 || r.Net != 0 || slices.Contains(r.Up, false) {
		t.Fatalf("%d houses, %v: settled it has %d rounds, %d messages, up %v", houses, l, r.Rounds, r.Net, r.Up)
	}
	for user, x := range r.Book.Rows {
		for id, h := range r.Houses {
			p := h.Places[user]
			if id != x.Owner {
				if p.State == impl.StServing || p.State == impl.StFrozen {
					t.Fatalf("%d houses, %v: user %d of %v is at house %d too: %v", houses, l, user, x, id, p)
				}
				continue
			}
			p.Acc.Seen = nil
			if x.Moving || p.State != impl.StServing || p.Epoch != x.Epoch || !sameAccount(p.Acc, accounts[user]) {
				t.Fatalf("%d houses, %v: user %d of %v is served by %v, want\n%v", houses, l, user, x, p, accounts[user])
			}
		}
	}
}

// allFall cuts the script off so that there is room for all nodes to fall.
func allFall(houses int, l []impl.Action) []impl.Action {
	l = slices.Clone(l[:min(len(l), impl.MaxScript-houses-1)])
	for id := range houses + 1 {
		l = append(l, crash(id))
	}
	return l
}

func TestWhateverScriptThereMayBe(t *testing.T) {
	eachDrawn(103, 60, func(draw func(int) int, houses int, l []impl.Action, p *plainCluster) {
		checkFollows(t, houses, l, impl.Run(houses, l, false))
		checkSettled(t, houses, l)
	})
}

// wild scripts do not look at what is there: any action may stand anywhere.
func TestWildScripts(t *testing.T) {
	draw := draws(107)
	for range 1500 {
		houses := 1 + draw(3)
		var l []impl.Action
		for range draw(301) {
			a := impl.Action{Kind: draw(10), Node: draw(4), I: draw(70), User: draw(3)}
			if draw(20) == 0 {
				a.I = impl.MaxNum - draw(70)
			}
			if a.Kind == impl.AcCmd {
				a.Cmd = drawnCmd(draw, smallAccount())
			}
			l = append(l, a)
		}
		checkFollows(t, houses, l, checkRun(t, houses, l))
		checkSettled(t, houses, l)
		checkSettled(t, houses, allFall(houses, l))
	}
}

// checkBeginning is the first half of promise 11: a call may be answered
// behind the part, and is as it was in all else.
func checkBeginning(t *testing.T, houses int, l []impl.Action, n int, all impl.Result) {
	t.Helper()
	part := impl.Run(houses, l[:n], false)
	if len(part.Deeds) > len(all.Deeds) || len(part.Calls) > len(all.Calls) {
		t.Fatalf("%d houses, %v: the first %d actions bring about more than all", houses, l, n)
	}
	if !slices.EqualFunc(part.Deeds, all.Deeds[:len(part.Deeds)], sameDeed) {
		t.Fatalf("%d houses, %v: the deeds of the first %d actions are no beginning", houses, l, n)
	}
	for i, x := range part.Calls {
		later := all.Calls[i]
		if x.To == -1 && later.To > n {
			later.To, later.Reply = -1, impl.Reply{}
		}
		if !sameCall(x, later) || x.From > n || x.To > n {
			t.Fatalf("%d houses, %v: call %d behind %d actions is %v, and later %v", houses, l, i+1, n, x, later)
		}
	}
}

func TestBeginningsOfScripts(t *testing.T) {
	eachDrawn(109, 4, func(draw func(int) int, houses int, l []impl.Action, p *plainCluster) {
		all, settled := impl.Run(houses, l, false), impl.Run(houses, l, true)
		for n := range len(l) + 1 {
			checkBeginning(t, houses, l, n, all)
			checkBeginning(t, houses, l, n, settled)
			checkSettled(t, houses, l[:n])
			checkSettled(t, houses, allFall(houses, l[:n]))
		}
	})
}

// shortActions are what all short scripts are made of.
func shortActions() []impl.Action {
	return []impl.Action{
		deliver(0), deliver(1), deliver(59), double(0), lose(0), tick(), move(0, 0), move(0, 1), abort(0),
		crash(0), crash(1), crash(2), start(0), start(1), start(2), fuse(0, 3), fuse(0, 4), fuse(1, 99), fuse(2, 4),
		said(0, 0, "CREATE a"), said(1, 0, "LIST"),
	}
}

func TestAllShortScripts(t *testing.T) {
	beginnings := [][]impl.Action{
		nil,
		{move(0, 1)},
		{move(0, 1), lose(0), lose(0), deliver(0)},
		{move(0, 1), lose(0), lose(0), deliver(0), deliver(0)},
		{move(0, 1), lose(0), lose(0), deliver(0), deliver(0), deliver(0)},
		{move(0, 1), lose(0), lose(0), deliver(0), deliver(0), deliver(0), deliver(0)},
		{move(0, 1), lose(0), lose(0), deliver(0), deliver(0), deliver(0), deliver(0), deliver(1)},
		{said(0, 0, "CREATE b"), move(0, 1), lose(1), lose(1), double(1)},
	}
	actions := shortActions()
	for _, begin := range beginnings {
		for _, a := range actions {
			for _, b := range actions {
				for _, c := range actions {
					l := append(slices.Clone(begin), a, b, c)
					checkFollows(t, 2, l, impl.Run(2, l, false))
					checkSettled(t, 2, l)
				}
				checkRun(t, 2, append(slices.Clone(begin), a, b))
			}
		}
	}
}
