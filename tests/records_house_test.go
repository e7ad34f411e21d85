package tests

import (
	"math"
	"slices"
	"testing"

	"loop.example/g00359/impl"
)

// HouseOf: what records make of a house, and what of them applies when.

func TestHousesOfNoRecords(t *testing.T) {
	serves, none := impl.Place{State: impl.StServing, Epoch: 1}, impl.Place{}
	for _, x := range []struct {
		id     int
		houses int
		places []impl.Place
	}{
		{0, 1, []impl.Place{serves, serves, serves}},
		{0, 2, []impl.Place{serves, none, serves}},
		{1, 2, []impl.Place{none, serves, none}},
		{0, 3, []impl.Place{serves, none, none}},
		{1, 3, []impl.Place{none, serves, none}},
		{2, 3, []impl.Place{none, none, serves}},
	} {
		want := impl.House{Id: x.id, Places: x.places}
		checkHouse(t, "no records", x.id, x.houses, nil, want)
		checkHouse(t, "no records", x.id, x.houses, []impl.Record{}, want)
	}
}

func TestHousesThatThereAreNot(t *testing.T) {
	for _, l := range [][]impl.Record{nil, {bareRecord(impl.RcFreeze, 0, 1)}} {
		for _, houses := range []int{math.MinInt, -1, 0, impl.MaxHouses + 1, math.MaxInt} {
			for _, id := range []int{math.MinInt, -1, 0, 1, impl.MaxHouses, houses - 1} {
				checkNoHouse(t, "houses", id, houses, l)
			}
		}
		for houses := 1; houses <= impl.MaxHouses; houses++ {
			for _, id := range []int{math.MinInt, -1, houses, houses + 1, math.MaxInt} {
				checkNoHouse(t, "id", id, houses, l)
			}
		}
	}
}

// A record that may not be there makes no house, wherever it stands.
func TestHousesOfRecordsThatMayNotBe(t *testing.T) {
	bad := map[string]impl.Record{
		"the zero value": {},
		"RcMove":         moveRecord(0, 0),
		"RcMove to 1":    moveRecord(2, 1),
		"RcCut":          cutRecord(0),
		"RcAbort":        abortRecord(1),
		"Kind -1":        {Kind: -1},
		"User -1":        bareRecord(impl.RcFreeze, -1, 1),
		"N -1":           bareRecord(impl.RcGrant, 0, -1),
		"an Acc more":    {Kind: impl.RcGrant, Acc: impl.Account{Valid: 1}},
		"a Cmd more":     {Kind: impl.RcDrop, Cmd: impl.Cmd{Uid: 1}},
		"no Cmd":         cmdRecord(0, 1, impl.Cmd{}),
	}
	for why, r := range badRecords() {
		bad[why] = r
	}
	good := []impl.Record{cmdRecord(0, 1, createCmd("a")), bareRecord(impl.RcFreeze, 0, 1), bareRecord(impl.RcThaw, 0, 1)}
	for houses := 1; houses <= impl.MaxHouses; houses++ {
		for id := range houses {
			for why, r := range bad {
				checkNoHouse(t, why, id, houses, []impl.Record{r})
				for at := range len(good) + 1 {
					checkNoHouse(t, why, id, houses, slices.Insert(slices.Clone(good), at, r))
				}
			}
			if _, ok := impl.HouseOf(id, houses, good); !ok {
				t.Error("good records make no house")
			}
		}
	}
}

// brought answers records that bring the place of a user which is not the
// house's at first there; epoch is at least 3, try at least 2.
func brought(user int, state int, epoch int, try int, a impl.Account) []impl.Record {
	const freeze, grant, drop = impl.RcFreeze, impl.RcGrant, impl.RcDrop
	served := []impl.Record{installRecord(user, 1, smallAccount()), bareRecord(grant, user, 1)}
	away := func(try int, epoch int) []impl.Record {
		return append(slices.Clone(served), bareRecord(freeze, user, try), bareRecord(drop, user, epoch))
	}
	switch state {
	case impl.StServing:
		return append(away(try, 2), installRecord(user, epoch, a), bareRecord(grant, user, epoch))
	case impl.StFrozen:
		return append(away(try-1, 2), installRecord(user, epoch, a), bareRecord(grant, user, epoch), bareRecord(freeze, user, try))
	case impl.StInstalled:
		return append(away(try, 2), installRecord(user, epoch, a))
	}
	return away(try, epoch)
}

// houseWith is house 1 of 3, with this place for the user.
func houseWith(user int, p impl.Place) impl.House {
	h := plainFirstHouse(1, 3)
	h.Places[user] = p
	return h
}

// rule says what a kind of record does in a state; where there is none, it
// does nothing. at95 are the only N at which it applies where Epoch is 9 and
// Try 5, at59 those where Epoch is 5 and Try 9.
type rule struct {
	state int
	kind  int
	at95  []int
	at59  []int
	after func(p impl.Place, n int) impl.Place
}

func frozenBy(p impl.Place, n int) impl.Place {
	p.State, p.Try = impl.StFrozen, n
	return p
}

func thawedBy(p impl.Place, n int) impl.Place {
	p.State, p.Try = impl.StServing, n
	return p
}

func installedBy(p impl.Place, n int) impl.Place {
	p.State, p.Epoch, p.Acc = impl.StInstalled, n, smallAccount()
	return p
}

func grantedBy(p impl.Place, n int) impl.Place {
	p.State = impl.StServing
	return p
}

func droppedBy(p impl.Place, n int) impl.Place {
	p.State, p.Epoch, p.Acc = impl.StNone, n, impl.Account{}
	return p
}

func doneBy(p impl.Place, n int) impl.Place {
	p.Acc, _ = plainDo(p.Acc, createCmd("in"))
	p.Acc.Seen = append(p.Acc.Seen, n)
	slices.Sort(p.Acc.Seen)
	return p
}

func ruleNums() []int { return []int{0, 1, 4, 5, 6, 8, 9, 10, impl.MaxSeq} }

func rules() []rule {
	const most = impl.MaxSeq
	return []rule{
		{impl.StServing, impl.RcCmd, []int{1, 4, 6, 8, 9, 10, most}, []int{1, 4, 6, 8, 9, 10, most}, doneBy},
		{impl.StServing, impl.RcFreeze, []int{6, 8, 9, 10, most}, []int{10, most}, frozenBy},
		{impl.StFrozen, impl.RcFreeze, []int{6, 8, 9, 10, most}, []int{10, most}, frozenBy},
		{impl.StFrozen, impl.RcThaw, []int{5, 6, 8, 9, 10, most}, []int{9, 10, most}, thawedBy},
		{impl.StNone, impl.RcInstall, []int{10, most}, []int{6, 8, 9, 10, most}, installedBy},
		{impl.StInstalled, impl.RcInstall, []int{10, most}, []int{6, 8, 9, 10, most}, installedBy},
		{impl.StInstalled, impl.RcGrant, []int{9}, []int{5}, grantedBy},
		{impl.StFrozen, impl.RcDrop, []int{10, most}, []int{6, 8, 9, 10, most}, droppedBy},
	}
}

// ruled answers the place behind a record by the rules, and whether one applied.
func ruled(p impl.Place, kind int, n int) (impl.Place, bool) {
	for _, x := range rules() {
		at := x.at95
		if p.Epoch == 5 {
			at = x.at59
		}
		if x.state == p.State && x.kind == kind && slices.Contains(at, n) {
			return x.after(p, n), true
		}
	}
	return p, false
}

// heldAccount is told apart from smallAccount; call 5 was seen.
func heldAccount() impl.Account {
	return impl.Account{Valid: 3, Seen: []int{2, 5, 11}, Boxes: []impl.Box{{Name: []byte("held"), Valid: 2, Next: 4, Seq: 3}}}
}

// Each kind of record in each state, with N below, at and above Try and Epoch.
func TestWhatAppliesWhen(t *testing.T) {
	applied := 0
	for _, epochAndTry := range [][2]int{{9, 5}, {5, 9}} {
		for _, user := range []int{0, 2} {
			for state := impl.StNone; state <= impl.StInstalled; state++ {
				p := impl.Place{State: state, Epoch: epochAndTry[0], Try: epochAndTry[1], Acc: heldAccount()}
				if state == impl.StNone {
					p.Acc = impl.Account{}
				}
				l := brought(user, p.State, p.Epoch, p.Try, p.Acc)
				checkHouse(t, "as it was brought there", 1, 3, l, houseWith(user, p))
				for kind := impl.RcCmd; kind <= impl.RcDrop; kind++ {
					for _, n := range ruleNums() {
						if kind == impl.RcCmd && n == 0 {
							continue
						}
						want, ok := ruled(p, kind, n)
						checkHouse(t, "behind that", 1, 3, append(l[:len(l):len(l)], recordOfKind(kind, user, n)), houseWith(user, want))
						if ok {
							applied++
						}
					}
				}
			}
		}
	}
	// Of the rules, once for each user.
	want := 0
	for _, x := range rules() {
		want += 2 * (len(x.at95) + len(x.at59))
	}
	if applied != want {
		t.Fatal(applied, want)
	}
}

// A place as it is at first: nothing was tried, and a house that has its user
// has Epoch 1.
func TestWhatAppliesAtFirst(t *testing.T) {
	for _, x := range []struct {
		why  string
		user int
		r    impl.Record
		want impl.Place
	}{
		{"a command", 1, cmdRecord(1, 1, createCmd("a")), impl.Place{State: 1, Epoch: 1, Acc: impl.Account{Valid: 1, Seen: []int{1}, Boxes: []impl.Box{{Name: []byte("a"), Valid: 1, Next: 1}}}}},
		{"freeze 0", 1, bareRecord(impl.RcFreeze, 1, 0), impl.Place{State: 1, Epoch: 1}},
		{"freeze 1", 1, bareRecord(impl.RcFreeze, 1, 1), impl.Place{State: 2, Epoch: 1, Try: 1}},
		{"freeze MaxSeq", 1, bareRecord(impl.RcFreeze, 1, impl.MaxSeq), impl.Place{State: 2, Epoch: 1, Try: impl.MaxSeq}},
		{"thaw", 1, bareRecord(impl.RcThaw, 1, 1), impl.Place{State: 1, Epoch: 1}},
		{"install", 1, installRecord(1, 2, smallAccount()), impl.Place{State: 1, Epoch: 1}},
		{"grant", 1, bareRecord(impl.RcGrant, 1, 1), impl.Place{State: 1, Epoch: 1}},
		{"drop", 1, bareRecord(impl.RcDrop, 1, 2), impl.Place{State: 1, Epoch: 1}},
		{"a command elsewhere", 0, cmdRecord(0, 1, createCmd("a")), impl.Place{}},
		{"freeze elsewhere", 0, bareRecord(impl.RcFreeze, 0, 1), impl.Place{}},
		{"thaw elsewhere", 0, bareRecord(impl.RcThaw, 0, 1), impl.Place{}},
		{"install 0 elsewhere", 0, installRecord(0, 0, smallAccount()), impl.Place{}},
		{"install 1 elsewhere", 0, installRecord(0, 1, smallAccount()), impl.Place{State: 3, Epoch: 1, Acc: smallAccount()}},
		{"install nothing elsewhere", 0, installRecord(0, 1, impl.Account{}), impl.Place{State: 3, Epoch: 1}},
		{"install MaxSeq elsewhere", 2, installRecord(2, impl.MaxSeq, longAccount()), impl.Place{State: 3, Epoch: impl.MaxSeq, Acc: longAccount()}},
		{"grant 0 elsewhere", 0, bareRecord(impl.RcGrant, 0, 0), impl.Place{}},
		{"grant 1 elsewhere", 0, bareRecord(impl.RcGrant, 0, 1), impl.Place{}},
		{"drop elsewhere", 2, bareRecord(impl.RcDrop, 2, 2), impl.Place{}},
	} {
		checkHouse(t, x.why, 1, 3, []impl.Record{x.r}, houseWith(x.user, x.want))
	}
}

func TestNumbersAtMaxSeq(t *testing.T) {
	const most = impl.MaxSeq
	a := smallAccount()
	served := []impl.Record{installRecord(0, most, a), bareRecord(impl.RcGrant, 0, most)}
	checkHouse(t, "served", 1, 3, served, houseWith(0, impl.Place{State: 1, Epoch: most, Acc: a}))
	frozen := append(served, bareRecord(impl.RcFreeze, 0, most))
	p := impl.Place{State: 2, Epoch: most, Try: most, Acc: a}
	checkHouse(t, "frozen", 1, 3, frozen, houseWith(0, p))
	checkHouse(t, "frozen again", 1, 3, append(frozen, bareRecord(impl.RcFreeze, 0, most)), houseWith(0, p))
	checkHouse(t, "dropped at its epoch", 1, 3, append(frozen, bareRecord(impl.RcDrop, 0, most)), houseWith(0, p))
	checkHouse(t, "thawed one below", 1, 3, append(frozen, bareRecord(impl.RcThaw, 0, most-1)), houseWith(0, p))
	p.State = impl.StServing
	thawed := append(frozen, bareRecord(impl.RcThaw, 0, most))
	checkHouse(t, "thawed", 1, 3, thawed, houseWith(0, p))
	checkHouse(t, "frozen no more", 1, 3, append(thawed, bareRecord(impl.RcFreeze, 0, most)), houseWith(0, p))
}

// seenTo answers an account that has seen the calls 1 .. n.
func seenTo(n int) impl.Account {
	a := heldAccount()
	a.Seen = nil
	for call := 1; call <= n; call++ {
		a.Seen = append(a.Seen, call)
	}
	return a
}

func servedWith(a impl.Account) []impl.Record {
	return []impl.Record{installRecord(0, 2, a), bareRecord(impl.RcGrant, 0, 2)}
}

func TestCallsThatWereSeen(t *testing.T) {
	a := heldAccount()
	l := servedWith(a)
	place := impl.Place{State: impl.StServing, Epoch: 2, Acc: a}
	for _, call := range a.Seen {
		for _, x := range knownLines() {
			checkHouse(t, "seen", 1, 3, append(l, cmdRecord(0, call, x.c)), houseWith(0, place))
		}
	}
	for call, seen := range map[int][]int{
		1: {1, 2, 5, 11}, 3: {2, 3, 5, 11}, 6: {2, 5, 6, 11}, 10: {2, 5, 10, 11}, 12: {2, 5, 11, 12}, impl.MaxSeq: {2, 5, 11, impl.MaxSeq},
	} {
		p := place
		p.Acc, _ = plainDo(a, createCmd("in"))
		p.Acc.Seen = seen
		checkHouse(t, "not seen", 1, 3, append(l, cmdRecord(0, call, createCmd("in"))), houseWith(0, p))
	}
}

func TestAsManySeenAsThereMayBe(t *testing.T) {
	for seen, done := range map[int]bool{0: true, 1: true, impl.MaxSeen - 1: true, impl.MaxSeen: false} {
		a := seenTo(seen)
		for _, call := range []int{seen + 1, seen + 2, impl.MaxSeq} {
			p := impl.Place{State: impl.StServing, Epoch: 2, Acc: a}
			if done {
				p.Acc, _ = plainDo(a, createCmd("in"))
				p.Acc.Seen = append(p.Acc.Seen, call)
			}
			checkHouse(t, "one more", 1, 3, append(servedWith(a), cmdRecord(0, call, createCmd("in"))), houseWith(0, p))
		}
	}
	var l []impl.Record
	for call := 100; call > 0; call-- {
		l = append(l, cmdRecord(1, call, createCmd(string(rune('a'+call%26)))))
	}
	h, ok := impl.HouseOf(1, 3, l)
	if !ok || len(h.Places[1].Acc.Seen) != impl.MaxSeen || h.Places[1].Acc.Seen[0] != 41 || h.Places[1].Acc.Seen[59] != 100 {
		t.Fatal(h, ok)
	}
}

// A command that Do refuses, or that can change nothing, is seen all the same.
func TestCommandsThatChangeNothingAreSeen(t *testing.T) {
	a := smallAccount()
	for _, c := range []impl.Cmd{
		createCmd("in"), {Kind: impl.CmDelete, Box: []byte("none")}, {Kind: impl.CmAppend, Box: []byte("none")},
		{Kind: impl.CmFetch, Box: []byte("in"), Uid: 1}, {Kind: impl.CmFetch, Box: []byte("in"), Uid: 2},
		{Kind: impl.CmStore, Box: []byte("in"), Uid: 2, Flags: 5, Since: 1}, {Kind: impl.CmStatus, Box: []byte("in")},
		{Kind: impl.CmChanges, Box: []byte("in"), Since: 1}, {Kind: impl.CmCopy, Box: []byte("in"), To: []byte("x"), Uid: 2},
		{Kind: impl.CmList}, {Kind: impl.CmExpunge, Box: []byte("out")},
	} {
		want := smallAccount()
		want.Seen = []int{3, 4, 5, 9}
		checkHouse(t, "refused", 1, 3, append(servedWith(a), cmdRecord(0, 4, c)), houseWith(0, impl.Place{State: 1, Epoch: 2, Acc: want}))
	}
	full := filled(0)
	want := cloned(full)
	want.Seen = append(want.Seen, impl.MaxSeq)
	box := full.Boxes[0].Name
	checkHouse(t, "full", 1, 3, append(servedWith(full), cmdRecord(0, impl.MaxSeq, impl.Cmd{Kind: impl.CmAppend, Box: box})),
		houseWith(0, impl.Place{State: 1, Epoch: 2, Acc: want}))
}

// A whole move, as the two houses write it down.
func TestAMoveFromHouseToHouse(t *testing.T) {
	first := []impl.Record{
		cmdRecord(0, 1, createCmd("in")),
		cmdRecord(0, 2, impl.Cmd{Kind: impl.CmAppend, Box: []byte("in"), Text: []byte("hello")}),
		bareRecord(impl.RcFreeze, 0, 2),
		cmdRecord(0, 3, createCmd("late")),
	}
	account := impl.Account{Valid: 1, Seen: []int{1, 2}, Boxes: []impl.Box{{
		Name: []byte("in"), Valid: 1, Next: 2, Seq: 1, Mails: []impl.Mail{{Uid: 1, Seq: 1, Text: []byte("hello")}},
	}}}
	want := plainFirstHouse(0, 2)
	want.Places[0] = impl.Place{State: impl.StFrozen, Epoch: 1, Try: 2, Acc: account}
	checkHouse(t, "frozen", 0, 2, first, want)
	first = append(first, bareRecord(impl.RcDrop, 0, 2))
	want.Places[0] = impl.Place{State: impl.StNone, Epoch: 2, Try: 2}
	checkHouse(t, "dropped", 0, 2, first, want)

	second := []impl.Record{installRecord(0, 2, account), cmdRecord(0, 4, createCmd("soon")), bareRecord(impl.RcGrant, 0, 2)}
	other := plainFirstHouse(1, 2)
	other.Places[0] = impl.Place{State: impl.StServing, Epoch: 2, Acc: account}
	checkHouse(t, "granted", 1, 2, second, other)
	second = append(second, cmdRecord(0, 2, createCmd("again")), cmdRecord(0, 3, createCmd("late")))
	grown := cloned(account)
	grown.Valid, grown.Seen = 2, []int{1, 2, 3}
	grown.Boxes = append(grown.Boxes, impl.Box{Name: []byte("late"), Valid: 2, Next: 1})
	other.Places[0].Acc = grown
	checkHouse(t, "served", 1, 2, second, other)

	// And back again: Try and Epoch go on from where they were.
	first = append(first, installRecord(0, 2, grown), installRecord(0, 3, grown), bareRecord(impl.RcGrant, 0, 2))
	want.Places[0] = impl.Place{State: impl.StInstalled, Epoch: 3, Try: 2, Acc: grown}
	checkHouse(t, "installed again", 0, 2, first, want)
	first = append(first, bareRecord(impl.RcGrant, 0, 3), bareRecord(impl.RcFreeze, 0, 2))
	want.Places[0].State = impl.StServing
	checkHouse(t, "served again", 0, 2, first, want)
}
