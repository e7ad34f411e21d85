package tests

import (
	"slices"
	"testing"

	"loop.example/g00359/impl"
)

// What the tests of chapter 5 share: values held against each other, records
// of each kind, and plain records, houses and books, by the document's words.

func sameRecord(a impl.Record, b impl.Record) bool {
	return a.Kind == b.Kind && a.User == b.User && a.N == b.N && sameCmd(a.Cmd, b.Cmd) && sameAccount(a.Acc, b.Acc)
}

func zeroRecord(r impl.Record) bool { return sameRecord(r, impl.Record{}) }

func samePlace(a impl.Place, b impl.Place) bool {
	return a.State == b.State && a.Epoch == b.Epoch && a.Try == b.Try && sameAccount(a.Acc, b.Acc)
}

func sameHouse(a impl.House, b impl.House) bool {
	return a.Id == b.Id && slices.EqualFunc(a.Places, b.Places, samePlace)
}

func sameBook(a impl.Book, b impl.Book) bool { return slices.Equal(a.Rows, b.Rows) }

func createCmd(name string) impl.Cmd { return impl.Cmd{Kind: impl.CmCreate, Box: []byte(name)} }

func cmdRecord(user int, n int, c impl.Cmd) impl.Record {
	return impl.Record{Kind: impl.RcCmd, User: user, N: n, Cmd: c}
}

func installRecord(user int, n int, a impl.Account) impl.Record {
	return impl.Record{Kind: impl.RcInstall, User: user, N: n, Acc: a}
}

// bareRecord is one of the kinds that have numbers alone.
func bareRecord(kind int, user int, n int) impl.Record {
	return impl.Record{Kind: kind, User: user, N: n}
}

func moveRecord(user int, to int) impl.Record { return bareRecord(impl.RcMove, user, to) }

func cutRecord(user int) impl.Record { return bareRecord(impl.RcCut, user, 0) }

func abortRecord(user int) impl.Record { return bareRecord(impl.RcAbort, user, 0) }

// someNum is an N that may be in a record of the kind.
func someNum(kind int) int {
	if kind >= impl.RcCut {
		return 0
	}
	return 1
}

// recordOfKind has what its kind wants beside the numbers.
func recordOfKind(kind int, user int, n int) impl.Record {
	switch kind {
	case impl.RcCmd:
		return cmdRecord(user, n, createCmd("in"))
	case impl.RcInstall:
		return installRecord(user, n, smallAccount())
	}
	return bareRecord(kind, user, n)
}

// goodRecords are of every kind, with their fields at their limits.
func goodRecords() []impl.Record {
	var l []impl.Record
	for _, user := range []int{0, 1, impl.MaxUsers - 1} {
		for _, x := range knownLines() {
			l = append(l, cmdRecord(user, 1, x.c), cmdRecord(user, 127, x.c), cmdRecord(user, impl.MaxSeq, x.c))
		}
		for _, kind := range []int{impl.RcFreeze, impl.RcThaw, impl.RcGrant, impl.RcDrop} {
			for _, n := range []int{0, 1, 127, 128, 16383, 16384, impl.MaxSeq - 1, impl.MaxSeq} {
				l = append(l, bareRecord(kind, user, n))
			}
		}
		for _, a := range someAccounts() {
			l = append(l, installRecord(user, 0, a), installRecord(user, 300, a), installRecord(user, impl.MaxSeq, a))
		}
		for to := range impl.MaxHouses {
			l = append(l, moveRecord(user, to))
		}
		l = append(l, cutRecord(user), abortRecord(user))
	}
	return l
}

// badRecords are not RecordOk; but for those with numbers below 0 or with what
// their kind does not have, they have bytes of the like form.
func badRecords() map[string]impl.Record {
	l := map[string]impl.Record{
		"Kind RcAbort + 1":         {Kind: impl.RcAbort + 1},
		"RcAbort + 1 with N 1":     {Kind: impl.RcAbort + 1, N: 1},
		"Kind 127":                 {Kind: 127},
		"Kind MaxNum":              {Kind: impl.MaxNum},
		"User MaxUsers":            cmdRecord(impl.MaxUsers, 1, createCmd("a")),
		"User MaxNum":              bareRecord(impl.RcFreeze, impl.MaxNum, 1),
		"RcCmd with N 0":           cmdRecord(0, 0, createCmd("a")),
		"RcCmd with MaxSeq + 1":    cmdRecord(0, impl.MaxSeq+1, createCmd("a")),
		"RcCmd with MaxNum":        cmdRecord(0, impl.MaxNum, createCmd("a")),
		"RcFreeze with MaxSeq + 1": bareRecord(impl.RcFreeze, 0, impl.MaxSeq+1),
		"RcThaw with MaxSeq + 1":   bareRecord(impl.RcThaw, 0, impl.MaxSeq+1),
		"RcGrant with MaxSeq + 1":  bareRecord(impl.RcGrant, 0, impl.MaxSeq+1),
		"RcDrop with MaxSeq + 1":   bareRecord(impl.RcDrop, 0, impl.MaxSeq+1),
		"RcInstall, MaxSeq + 1":    installRecord(0, impl.MaxSeq+1, smallAccount()),
		"RcMove to MaxHouses":      moveRecord(0, impl.MaxHouses),
		"RcMove to MaxSeq":         moveRecord(0, impl.MaxSeq),
		"RcCut with N 1":           bareRecord(impl.RcCut, 0, 1),
		"RcAbort with N 1":         bareRecord(impl.RcAbort, 0, 1),
		"RcCut with MaxSeq":        bareRecord(impl.RcCut, 0, impl.MaxSeq),
	}
	for kind := range impl.RcAbort + 1 {
		l["User MaxUsers, Kind "+string(rune('0'+kind))] = recordOfKind(kind, impl.MaxUsers, someNum(kind))
	}
	for why, a := range badAccounts() {
		l["RcInstall: "+why] = installRecord(1, 5, a)
	}
	return l
}

func plainRecordOk(r impl.Record) bool {
	if r.Kind < 0 || r.Kind > 8 || r.User < 0 || r.User > 2 || r.N < 0 || r.N > 1000000 {
		return false
	}
	if r.Kind != 0 && !zeroCmd(r.Cmd) || r.Kind != 3 && !zeroAccount(r.Acc) {
		return false
	}
	switch r.Kind {
	case 0:
		return plainCmdOk(r.Cmd) && r.N > 0
	case 3:
		return impl.AccountOk(r.Acc)
	case 6:
		return r.N < 3
	case 7, 8:
		return r.N == 0
	}
	return true
}

func (p *plainPut) record(r impl.Record) {
	p.num(r.Kind)
	p.num(r.User)
	p.num(r.N)
	if r.Kind == 0 {
		p.out = append(p.out, plainCmdText(r.Cmd)...)
	}
	if r.Kind == 3 {
		p.account(r.Acc)
	}
}

// plainRecordBytes puts any record whose numbers are not below 0, and whose
// command may be, whether it may be itself or not.
func plainRecordBytes(r impl.Record) []byte {
	p := plainPut{long: -1}
	p.record(r)
	return p.out
}

func plainRecordRead(b []byte) (impl.Record, bool) {
	g := plainGet{b: b}
	r := impl.Record{Kind: g.num()}
	r.User = g.num()
	r.N = g.num()
	if g.bad {
		return impl.Record{}, false
	}
	rest, ok := b[g.at:], false
	switch r.Kind {
	case 0:
		c, code, _ := plainCmdRead(rest)
		r.Cmd, ok = c, code == 0 && plainCmdText(c) == string(rest)
	case 3:
		r.Acc, ok = plainAccountRead(rest)
	default:
		ok = len(rest) == 0
	}
	if !ok || !plainRecordOk(r) {
		return impl.Record{}, false
	}
	return r, true
}

// plainPlaceStep answers the place behind one record, and whether it applied.
func plainPlaceStep(p impl.Place, r impl.Record) (impl.Place, bool) {
	const none, serving, frozen, installed = 0, 1, 2, 3
	s, n := p.State, r.N
	switch r.Kind {
	case 0:
		if s != serving || slices.Index(p.Acc.Seen, n) >= 0 || len(p.Acc.Seen) >= 60 {
			return p, false
		}
		p.Acc, _ = plainDo(p.Acc, r.Cmd)
		p.Acc.Seen = append(p.Acc.Seen, n)
		slices.Sort(p.Acc.Seen)
	case 1:
		if s != serving && s != frozen || n <= p.Try {
			return p, false
		}
		p.State, p.Try = frozen, n
	case 2:
		if s != frozen || n < p.Try {
			return p, false
		}
		p.State, p.Try = serving, n
	case 3:
		if s != none && s != installed || n <= p.Epoch {
			return p, false
		}
		p.State, p.Epoch, p.Acc = installed, n, cloned(r.Acc)
	case 4:
		if s != installed || n != p.Epoch {
			return p, false
		}
		p.State = serving
	case 5:
		if s != frozen || n <= p.Epoch {
			return p, false
		}
		p.State, p.Epoch, p.Acc = none, n, impl.Account{}
	}
	return p, true
}

func plainFirstHouse(id int, houses int) impl.House {
	h := impl.House{Id: id, Places: make([]impl.Place, 3)}
	for user := id; user < 3; user += houses {
		h.Places[user] = impl.Place{State: 1, Epoch: 1}
	}
	return h
}

func plainHouseOf(id int, houses int, l []impl.Record) (impl.House, bool) {
	if houses < 1 || houses > 3 || id < 0 || id >= houses {
		return impl.House{}, false
	}
	h := plainFirstHouse(id, houses)
	for _, r := range l {
		if !plainRecordOk(r) || r.Kind > 5 {
			return impl.House{}, false
		}
		h.Places[r.User], _ = plainPlaceStep(h.Places[r.User], r)
	}
	return h, true
}

// plainRowStep answers the row behind one record, and whether it applied.
func plainRowStep(x impl.Row, r impl.Record) (impl.Row, bool) {
	switch {
	case r.Kind == 6 && !x.Moving && r.N != x.Owner && x.Try < 1000000 && x.Epoch < 1000000:
		greater := x.Try
		if x.Epoch > greater {
			greater = x.Epoch
		}
		return impl.Row{Epoch: x.Epoch, Owner: x.Owner, Moving: true, Try: greater + 1, Target: r.N}, true
	case r.Kind == 7 && x.Moving:
		return impl.Row{Epoch: x.Try, Owner: x.Target, Try: x.Try, Target: x.Target}, true
	case r.Kind == 8 && x.Moving:
		return impl.Row{Epoch: x.Epoch, Owner: x.Owner, Try: x.Try, Target: x.Target}, true
	}
	return x, false
}

func plainFirstBook(houses int) impl.Book {
	return impl.Book{Rows: []impl.Row{{Epoch: 1}, {Epoch: 1, Owner: 1 % houses}, {Epoch: 1, Owner: 2 % houses}}}
}

func plainBookOf(houses int, l []impl.Record) (impl.Book, bool) {
	if houses < 1 || houses > 3 {
		return impl.Book{}, false
	}
	b := plainFirstBook(houses)
	for _, r := range l {
		if !plainRecordOk(r) || r.Kind < 6 || r.Kind == 6 && r.N >= houses {
			return impl.Book{}, false
		}
		b.Rows[r.User], _ = plainRowStep(b.Rows[r.User], r)
	}
	return b, true
}

func checkHouse(t *testing.T, why string, id int, houses int, l []impl.Record, want impl.House) {
	t.Helper()
	h, ok := impl.HouseOf(id, houses, l)
	if !ok || !sameHouse(h, want) {
		t.Errorf("%s: HouseOf(%d, %d, %v) answers\n%v, %v, want\n%v", why, id, houses, l, h, ok, want)
	}
}

func checkNoHouse(t *testing.T, why string, id int, houses int, l []impl.Record) {
	t.Helper()
	if h, ok := impl.HouseOf(id, houses, l); ok || !sameHouse(h, impl.House{}) {
		t.Errorf("%s: HouseOf(%d, %d, ..) answers %v, %v", why, id, houses, h, ok)
	}
}

func checkBook(t *testing.T, why string, houses int, l []impl.Record, want ...impl.Row) {
	t.Helper()
	b, ok := impl.BookOf(houses, l)
	if !ok || !slices.Equal(b.Rows, want) {
		t.Errorf("%s: BookOf(%d, ..) answers\n%v, %v, want\n%v", why, houses, b, ok, want)
	}
}

func checkNoBook(t *testing.T, why string, houses int, l []impl.Record) {
	t.Helper()
	if b, ok := impl.BookOf(houses, l); ok || !sameBook(b, impl.Book{}) {
		t.Errorf("%s: BookOf(%d, ..) answers %v, %v", why, houses, b, ok)
	}
}
