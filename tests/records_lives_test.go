package tests

import (
	"slices"
	"testing"

	"loop.example/g00359/impl"
)

// Promise 8 of houses, behind any records: what is over changes nothing.

// drawnHouseRecord often meets what applies at the place.
func drawnHouseRecord(draw func(int) int, h impl.House) impl.Record {
	user := draw(impl.MaxUsers)
	p := h.Places[user]
	kinds := [][]int{
		{impl.RcInstall}, {impl.RcCmd, impl.RcCmd, impl.RcCmd, impl.RcFreeze},
		{impl.RcThaw, impl.RcDrop, impl.RcFreeze}, {impl.RcGrant, impl.RcGrant, impl.RcInstall},
	}[p.State]
	kind := kinds[draw(len(kinds))]
	if draw(4) == 0 {
		kind = draw(impl.RcDrop + 1)
	}
	n := p.Epoch
	if draw(2) == 0 {
		n = p.Try
	}
	n = min(impl.MaxSeq, max(0, n+draw(4)-1))
	switch kind {
	case impl.RcCmd:
		return cmdRecord(user, 1+draw(90), drawnCmd(draw, p.Acc))
	case impl.RcInstall:
		a := drawnAccount(draw)
		a.Seen = a.Seen[:min(len(a.Seen), draw(61))]
		return installRecord(user, n, a)
	}
	return bareRecord(kind, user, n)
}

// drawnHouse answers the records of a life, and the plain house they make;
// applied counts, by kind, those that did something, and those that did not.
func drawnHouse(draw func(int) int, id int, houses int, size int, applied map[[2]int]int) ([]impl.Record, impl.House) {
	h := plainFirstHouse(id, houses)
	var l []impl.Record
	for range size {
		r := drawnHouseRecord(draw, h)
		p, ok := plainPlaceStep(h.Places[r.User], r)
		h.Places[r.User] = p
		l = append(l, r)
		key := [2]int{r.Kind, 0}
		if ok {
			key[1] = 1
		}
		applied[key]++
	}
	return l, h
}

func eachHouse(show func(id int, houses int)) {
	for houses := 1; houses <= impl.MaxHouses; houses++ {
		for id := range houses {
			show(id, houses)
		}
	}
}

func TestDrawnRecordsMakeThePlainHouses(t *testing.T) {
	draw := draws(47)
	applied := map[[2]int]int{}
	for range 80 {
		eachHouse(func(id int, houses int) {
			l, want := drawnHouse(draw, id, houses, draw(90), applied)
			checkHouse(t, "drawn", id, houses, l, want)
			for _, p := range want.Places {
				if !impl.AccountOk(p.Acc) {
					t.Errorf("not AccountOk: %v", p.Acc)
				}
			}
			if t.Failed() {
				t.FailNow()
			}
		})
	}
	for kind := impl.RcCmd; kind <= impl.RcDrop; kind++ {
		for ok := range 2 {
			if applied[[2]int{kind, ok}] < 100 {
				t.Errorf("records of kind %d: %v", kind, applied)
			}
		}
	}
}

// overRecords are of tries that are over at the place, or of calls that were
// seen.
func overRecords(draw func(int) int, user int, p impl.Place) []impl.Record {
	l := []impl.Record{
		bareRecord(impl.RcFreeze, user, p.Try), bareRecord(impl.RcFreeze, user, draw(p.Try+1)),
		bareRecord(impl.RcDrop, user, p.Epoch), bareRecord(impl.RcDrop, user, draw(p.Epoch+1)),
		installRecord(user, p.Epoch, fullAccount()), installRecord(user, draw(p.Epoch+1), fullAccount()),
	}
	if p.Try > 0 {
		l = append(l, bareRecord(impl.RcThaw, user, p.Try-1), bareRecord(impl.RcThaw, user, draw(p.Try)))
	}
	if p.Epoch > 0 {
		l = append(l, bareRecord(impl.RcGrant, user, p.Epoch-1), bareRecord(impl.RcGrant, user, draw(p.Epoch)))
	}
	for _, call := range p.Acc.Seen {
		l = append(l, cmdRecord(user, call, drawnCmd(draw, p.Acc)))
	}
	return l
}

func TestWhatIsOverChangesNothing(t *testing.T) {
	draw := draws(53)
	applied := map[[2]int]int{}
	for range 25 {
		eachHouse(func(id int, houses int) {
			l, want := drawnHouse(draw, id, houses, 5+draw(30), applied)
			var over []impl.Record
			for user, p := range want.Places {
				over = append(over, overRecords(draw, user, p)...)
			}
			for _, r := range over {
				checkHouse(t, "over", id, houses, append(l[:len(l):len(l)], r), want)
			}
			checkHouse(t, "all that is over", id, houses, slices.Concat(l, over), want)
			if t.Failed() {
				t.FailNow()
			}
		})
	}
}

// The same record twice is as good as once, wherever it stands.
func TestTheSameRecordTwice(t *testing.T) {
	draw := draws(59)
	applied := map[[2]int]int{}
	for range 10 {
		eachHouse(func(id int, houses int) {
			l, want := drawnHouse(draw, id, houses, 30, applied)
			var doubled []impl.Record
			for i, r := range l {
				doubled = append(doubled, r, r)
				checkHouse(t, "twice", id, houses, slices.Insert(slices.Clone(l), i, r), want)
			}
			checkHouse(t, "each twice", id, houses, doubled, want)
			if t.Failed() {
				t.FailNow()
			}
		})
	}
}

// Epochs and tries of a place never go down, whatever is written.
func TestNumbersOfAPlaceNeverGoDown(t *testing.T) {
	draw := draws(61)
	applied := map[[2]int]int{}
	for range 10 {
		l, _ := drawnHouse(draw, 0, 1, 50, applied)
		was, _ := impl.HouseOf(0, 1, nil)
		for n := range l {
			h, ok := impl.HouseOf(0, 1, l[:n+1])
			if !ok {
				t.Fatal(l[n])
			}
			for user, p := range h.Places {
				old := was.Places[user]
				if p.Epoch < old.Epoch || p.Try < old.Try || user != l[n].User && !samePlace(p, old) {
					t.Fatalf("%v makes %v of %v", l[n], p, old)
				}
			}
			was = h
		}
	}
}

// Records of several users in turn: each place is what its own user's make it.
func TestUsersInTurn(t *testing.T) {
	draw := draws(67)
	applied := map[[2]int]int{}
	for range 30 {
		eachHouse(func(id int, houses int) {
			l, want := drawnHouse(draw, id, houses, 40, applied)
			for user := range impl.MaxUsers {
				own := slices.DeleteFunc(slices.Clone(l), func(r impl.Record) bool { return r.User != user })
				alone := plainFirstHouse(id, houses)
				alone.Places[user] = want.Places[user]
				checkHouse(t, "one user's alone", id, houses, own, alone)
			}
			slices.SortStableFunc(l, func(x impl.Record, y impl.Record) int { return y.User - x.User })
			checkHouse(t, "user by user", id, houses, l, want)
		})
	}
}

// Records that come back from their bytes, out of a log, make the same house.
func TestHousesOutOfTheirLogs(t *testing.T) {
	draw := draws(71)
	applied := map[[2]int]int{}
	for range 5 {
		eachHouse(func(id int, houses int) {
			l, want := drawnHouse(draw, id, houses, 40, applied)
			var g impl.Log
			for _, r := range l {
				b, _ := impl.RecordBytes(r)
				g = mustWrite(t, g, b)
			}
			var back []impl.Record
			found, _ := impl.Scan(impl.Sync(g))
			for _, b := range found {
				r, ok := impl.RecordRead(b)
				if !ok {
					t.Fatal(b)
				}
				back = append(back, r)
			}
			checkHouse(t, "out of a log", id, houses, back, want)
		})
	}
}
