package tests

import (
	"math"
	"slices"
	"testing"

	"loop.example/g00359/impl"
)

// BookOf, and promise 8 of books: epochs never go down, and change where a
// move is over alone.

func TestBooksOfNoRecords(t *testing.T) {
	for houses, owners := range map[int][3]int{1: {0, 0, 0}, 2: {0, 1, 0}, 3: {0, 1, 2}} {
		var want []impl.Row
		for _, owner := range owners {
			want = append(want, impl.Row{Epoch: 1, Owner: owner})
		}
		checkBook(t, "no records", houses, nil, want...)
		checkBook(t, "no records", houses, []impl.Record{}, want...)
	}
}

func TestBooksThatThereAreNot(t *testing.T) {
	for _, l := range [][]impl.Record{nil, {cutRecord(0)}, {moveRecord(0, 0)}} {
		for _, houses := range []int{math.MinInt, -1, 0, impl.MaxHouses + 1, math.MaxInt} {
			checkNoBook(t, "houses", houses, l)
		}
	}
}

// A record that may not be there makes no book, wherever it stands.
func TestBooksOfRecordsThatMayNotBe(t *testing.T) {
	bad := map[string]impl.Record{
		"the zero value":  {},
		"Kind -1":         {Kind: -1},
		"User -1":         moveRecord(-1, 0),
		"User MaxUsers":   cutRecord(impl.MaxUsers),
		"N -1":            moveRecord(0, -1),
		"RcCut with N -1": bareRecord(impl.RcCut, 0, -1),
		"RcCut with Cmd":  {Kind: impl.RcCut, Cmd: impl.Cmd{Box: []byte("a")}},
		"RcMove with Acc": {Kind: impl.RcMove, Acc: impl.Account{Seen: []int{1}}},
	}
	for kind := impl.RcCmd; kind <= impl.RcDrop; kind++ {
		bad["Kind below RcMove: "+string(rune('0'+kind))] = recordOfKind(kind, 0, 1)
		bad["Kind below RcMove, N 2: "+string(rune('0'+kind))] = recordOfKind(kind, 2, 2)
	}
	for why, r := range badRecords() {
		bad[why] = r
	}
	good := []impl.Record{moveRecord(0, 0), moveRecord(1, 0), cutRecord(1), abortRecord(2)}
	for houses := 1; houses <= impl.MaxHouses; houses++ {
		for why, r := range bad {
			checkNoBook(t, why, houses, []impl.Record{r})
			for at := range len(good) + 1 {
				checkNoBook(t, why, houses, slices.Insert(slices.Clone(good), at, r))
			}
		}
		for to := range impl.MaxHouses {
			l := slices.Insert(slices.Clone(good), 2, moveRecord(2, to))
			_, ok := impl.BookOf(houses, l)
			if to >= houses {
				checkNoBook(t, "a house that there is not", houses, l)
				checkNoBook(t, "a house that there is not, last", houses, append(slices.Clone(good), moveRecord(0, to)))
			} else if !ok {
				t.Errorf("BookOf(%d, %v) is refused", houses, l)
			}
		}
	}
}

// rows is the book of three houses, with this row for the user.
func rows(user int, x impl.Row) []impl.Row {
	l := []impl.Row{{Epoch: 1}, {Epoch: 1, Owner: 1}, {Epoch: 1, Owner: 2}}
	l[user] = x
	return l
}

func TestMoves(t *testing.T) {
	moving := impl.Row{Epoch: 1, Owner: 1, Moving: true, Try: 2, Target: 2}
	kept := impl.Row{Epoch: 1, Owner: 1, Try: 2, Target: 2}
	over := impl.Row{Epoch: 2, Owner: 2, Try: 2, Target: 2}
	first := impl.Row{Epoch: 1, Owner: 1}
	for _, x := range []struct {
		why  string
		l    []impl.Record
		want impl.Row
	}{
		{"to the Owner", []impl.Record{moveRecord(1, 1)}, first},
		{"to another one", []impl.Record{moveRecord(1, 2)}, moving},
		{"to the first one", []impl.Record{moveRecord(1, 0)}, impl.Row{Epoch: 1, Owner: 1, Moving: true, Try: 2}},
		{"twice", []impl.Record{moveRecord(1, 2), moveRecord(1, 2)}, moving},
		{"while Moving, elsewhere", []impl.Record{moveRecord(1, 2), moveRecord(1, 0)}, moving},
		{"while Moving, to the Owner", []impl.Record{moveRecord(1, 2), moveRecord(1, 1)}, moving},
		{"cut", []impl.Record{moveRecord(1, 2), cutRecord(1)}, over},
		{"cut twice", []impl.Record{moveRecord(1, 2), cutRecord(1), cutRecord(1)}, over},
		{"cut and broken off", []impl.Record{moveRecord(1, 2), cutRecord(1), abortRecord(1)}, over},
		{"broken off", []impl.Record{moveRecord(1, 2), abortRecord(1)}, kept},
		{"broken off twice", []impl.Record{moveRecord(1, 2), abortRecord(1), abortRecord(1)}, kept},
		{"broken off and cut", []impl.Record{moveRecord(1, 2), abortRecord(1), cutRecord(1)}, kept},
		{"cut, not Moving", []impl.Record{cutRecord(1)}, first},
		{"broken off, not Moving", []impl.Record{abortRecord(1)}, first},
		{"to the Owner, cut", []impl.Record{moveRecord(1, 1), cutRecord(1)}, first},
		{"to where it is now", []impl.Record{moveRecord(1, 2), cutRecord(1), moveRecord(1, 2)}, over},
		{"and on", []impl.Record{moveRecord(1, 2), cutRecord(1), moveRecord(1, 0)}, impl.Row{Epoch: 2, Owner: 2, Moving: true, Try: 3}},
		{"and back", []impl.Record{moveRecord(1, 2), cutRecord(1), moveRecord(1, 1), cutRecord(1)}, impl.Row{Epoch: 3, Owner: 1, Try: 3, Target: 1}},
		{"broken off, to the Owner", []impl.Record{moveRecord(1, 2), abortRecord(1), moveRecord(1, 1)}, kept},
		{"broken off, and again", []impl.Record{moveRecord(1, 2), abortRecord(1), moveRecord(1, 0)}, impl.Row{Epoch: 1, Owner: 1, Moving: true, Try: 3}},
		{"broken off, again, cut", []impl.Record{moveRecord(1, 2), abortRecord(1), moveRecord(1, 0), cutRecord(1)}, impl.Row{Epoch: 3, Owner: 0, Try: 3}},
	} {
		checkBook(t, x.why, 3, x.l, rows(1, x.want)...)
	}
}

func TestMovesOfSeveralUsers(t *testing.T) {
	l := []impl.Record{
		moveRecord(0, 1), moveRecord(1, 0), moveRecord(2, 1), cutRecord(2), abortRecord(0), moveRecord(2, 0), cutRecord(0), moveRecord(0, 1),
	}
	checkBook(t, "in turn", 2, l,
		impl.Row{Epoch: 1, Owner: 0, Moving: true, Try: 3, Target: 1},
		impl.Row{Epoch: 1, Owner: 1, Moving: true, Try: 2, Target: 0},
		impl.Row{Epoch: 2, Owner: 1, Moving: true, Try: 3, Target: 0})
}

func TestWithOneHouseNobodyMoves(t *testing.T) {
	var l []impl.Record
	for user := range impl.MaxUsers {
		l = append(l, moveRecord(user, 0), cutRecord(user), moveRecord(user, 0), abortRecord(user))
	}
	one := impl.Row{Epoch: 1}
	checkBook(t, "one house", 1, l, one, one, one)
}

// Many moves behind one another, cut and broken off in turn: each has the next
// number as Try, and Epoch is that of the last one that was cut.
func TestManyMoves(t *testing.T) {
	var l []impl.Record
	want := impl.Row{Epoch: 1, Owner: 0}
	for n := 2; n < 300; n++ {
		want.Target = (want.Owner + 1 + n%2) % 3
		want.Try, want.Moving = n, true
		l = append(l, moveRecord(0, want.Target))
		checkBook(t, "Moving", 3, l, rows(0, want)...)
		want.Moving = false
		if n%3 == 0 {
			l = append(l, abortRecord(0))
		} else {
			l = append(l, cutRecord(0))
			want.Epoch, want.Owner = n, want.Target
		}
		checkBook(t, "over", 3, l, rows(0, want)...)
	}
}

// One list brings Try, or Try and Epoch, to MaxSeq: then no move begins.
func TestMovesUpToMaxSeq(t *testing.T) {
	const moves = impl.MaxSeq - 1 // the first one has Try 2
	l := make([]impl.Record, 2*moves+2)
	fill := func(end func(int) impl.Record, to func(i int) int) {
		for i := range moves + 1 {
			l[2*i], l[2*i+1] = moveRecord(1, to(i)), end(1)
		}
	}
	const most = impl.MaxSeq
	fill(abortRecord, func(int) int { return 0 })
	checkBook(t, "broken off, one below", 3, l[:2*moves-2], rows(1, impl.Row{Epoch: 1, Owner: 1, Try: most - 1})...)
	checkBook(t, "the last move", 3, l[:2*moves-1], rows(1, impl.Row{Epoch: 1, Owner: 1, Moving: true, Try: most})...)
	checkBook(t, "broken off, at MaxSeq", 3, l[:2*moves], rows(1, impl.Row{Epoch: 1, Owner: 1, Try: most})...)
	checkBook(t, "one move more", 3, l[:2*moves+1], rows(1, impl.Row{Epoch: 1, Owner: 1, Try: most})...)
	l[2*moves] = moveRecord(1, 2)
	checkBook(t, "one move elsewhere", 3, l, rows(1, impl.Row{Epoch: 1, Owner: 1, Try: most})...)

	// The first move goes from 1 to 0, so each odd one (from 0 on) to 1.
	fill(cutRecord, func(i int) int { return i % 2 })
	checkBook(t, "cut, one below", 3, l[:2*moves-2], rows(1, impl.Row{Epoch: most - 1, Owner: 1, Try: most - 1, Target: 1})...)
	checkBook(t, "the last move", 3, l[:2*moves-1], rows(1, impl.Row{Epoch: most - 1, Owner: 1, Moving: true, Try: most})...)
	at := rows(1, impl.Row{Epoch: most, Owner: 0, Try: most})
	checkBook(t, "cut, at MaxSeq", 3, l[:2*moves], at...)
	checkBook(t, "one move more", 3, l[:2*moves+1], at...)
	checkBook(t, "one move more, cut", 3, l, at...)
}

func drawnBookRecord(draw func(int) int, houses int) impl.Record {
	user := draw(impl.MaxUsers)
	switch draw(4) {
	case 0:
		return cutRecord(user)
	case 1:
		return abortRecord(user)
	}
	return moveRecord(user, draw(houses))
}

// Any records: the plain book; and behind each of them, what may change does.
func TestEpochsChangeWhereAMoveIsOverAlone(t *testing.T) {
	draw := draws(73)
	changes := map[int]int{}
	for life := range 200 {
		houses := 1 + life%3
		was, _ := impl.BookOf(houses, nil)
		var l []impl.Record
		for range 60 {
			r := drawnBookRecord(draw, houses)
			l = append(l, r)
			is, ok := impl.BookOf(houses, l)
			want, _ := plainBookOf(houses, l)
			if !ok || !sameBook(is, want) {
				t.Fatalf("BookOf(%d, %v) answers %v, %v, want %v", houses, l, is, ok, want)
			}
			for user, x := range is.Rows {
				old := was.Rows[user]
				over := r.Kind == impl.RcCut && r.User == user && old.Moving
				if x.Epoch < old.Epoch || x.Try < old.Try || (x.Epoch != old.Epoch) != over || x.Owner != old.Owner && !over {
					t.Fatalf("%v makes %v of %v", r, x, old)
				}
				if x != old {
					changes[r.Kind]++
				}
				if x != old && user != r.User {
					t.Fatalf("%v changes the row of user %d", r, user)
				}
			}
			was = is
		}
	}
	for kind := impl.RcMove; kind <= impl.RcAbort; kind++ {
		if changes[kind] < 100 {
			t.Errorf("records of kind %d changed something %d times alone", kind, changes[kind])
		}
	}
}

// The same record twice is as good as once.
func TestTheSameRecordTwiceInABook(t *testing.T) {
	draw := draws(79)
	for life := range 100 {
		houses := 1 + life%3
		var l, doubled []impl.Record
		for range 40 {
			r := drawnBookRecord(draw, houses)
			l, doubled = append(l, r), append(doubled, r, r)
		}
		want, _ := plainBookOf(houses, l)
		checkBook(t, "once", houses, l, want.Rows...)
		checkBook(t, "each twice", houses, doubled, want.Rows...)
	}
}
