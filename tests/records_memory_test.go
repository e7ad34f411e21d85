package tests

import (
	"reflect"
	"testing"

	"loop.example/g00359/impl"
)

// Every answer is new memory, of records, houses and books too.

type recordArgs struct{ R impl.Record }

type houseArgs struct {
	Id     int
	Houses int
	L      []impl.Record
}

type bookArgs struct {
	Houses int
	L      []impl.Record
}

type okAnswer struct{ Ok bool }

type recordAnswer struct {
	R  impl.Record
	Ok bool
}

type houseAnswer struct {
	H  impl.House
	Ok bool
}

type bookAnswer struct {
	B  impl.Book
	Ok bool
}

func callRecordOk(args any) any {
	return okAnswer{impl.RecordOk(args.(recordArgs).R)}
}

func callRecordBytes(args any) any {
	b, ok := impl.RecordBytes(args.(recordArgs).R)
	return bytesAnswer{b, ok}
}

func callRecordRead(args any) any {
	r, ok := impl.RecordRead(args.(bytesArgs).B)
	return recordAnswer{r, ok}
}

func callHouseOf(args any) any {
	x := args.(houseArgs)
	h, ok := impl.HouseOf(x.Id, x.Houses, x.L)
	return houseAnswer{h, ok}
}

func callBookOf(args any) any {
	x := args.(bookArgs)
	b, ok := impl.BookOf(x.Houses, x.L)
	return bookAnswer{b, ok}
}

func TestRecordsAndTheirBytesAreNewMemory(t *testing.T) {
	for _, r := range goodRecords() {
		if r.User > 0 {
			continue
		}
		checkAnswerApart(t, "RecordOk", recordArgs{r}, callRecordOk)
		checkAnswerApart(t, "RecordBytes", recordArgs{r}, callRecordBytes)
		b := plainRecordBytes(r)
		checkAnswerApart(t, "RecordRead", bytesArgs{b}, callRecordRead)
		checkAnswerApart(t, "RecordRead, cut off", bytesArgs{b[:len(b)-1]}, callRecordRead)
	}
	for _, r := range badRecords() {
		checkAnswerApart(t, "RecordOk, refused", recordArgs{r}, callRecordOk)
		checkAnswerApart(t, "RecordBytes, refused", recordArgs{r}, callRecordBytes)
		checkAnswerApart(t, "RecordRead, refused", bytesArgs{plainRecordBytes(r)}, callRecordRead)
	}
}

// What lies behind a record's bytes is not read, even where it would go on
// with them.
func TestRoomBehindRecordsIsNotRead(t *testing.T) {
	for _, r := range goodRecords() {
		b := plainRecordBytes(r)
		for n := range b {
			want, wantOk := plainRecordRead(b[:n:n])
			got, ok := impl.RecordRead(b[:n])
			if ok != wantOk || !sameRecord(got, want) {
				t.Errorf("RecordRead(%v) with the rest behind answers %v, %v", b[:n], got, ok)
			}
		}
	}
	l := []impl.Record{bareRecord(impl.RcFreeze, 0, 1), bareRecord(impl.RcDrop, 0, 2), {Kind: -1}}
	want := plainFirstHouse(0, 1)
	want.Places[0] = impl.Place{State: impl.StFrozen, Epoch: 1, Try: 1}
	checkHouse(t, "with more behind", 0, 1, l[:1], want)
	moves := []impl.Record{moveRecord(0, 1), cutRecord(0), {Kind: -1}}
	checkBook(t, "with more behind", 3, moves[:1], rows(0, impl.Row{Epoch: 1, Moving: true, Try: 2, Target: 1})...)
}

// lifeOf brings places into every state, with accounts, and back out of them.
func lifeOf(state int) []impl.Record {
	l := brought(0, state, 9, 5, smallAccount())
	l = append(l, brought(2, state, 5, 9, crowded(40, 2, 5, 6))...)
	return append(l, cmdRecord(1, 7, createCmd("a")), cmdRecord(1, 3, createCmd("b")), cmdRecord(1, 5, impl.Cmd{Kind: impl.CmList}))
}

func TestHousesAreNewMemory(t *testing.T) {
	checkAnswerApart(t, "HouseOf", houseArgs{1, 3, nil}, callHouseOf)
	for state := impl.StNone; state <= impl.StInstalled; state++ {
		l := lifeOf(state)
		for n := range len(l) + 1 {
			checkAnswerApart(t, "HouseOf", houseArgs{1, 3, l[:n]}, callHouseOf)
		}
		for _, r := range []impl.Record{{}, cutRecord(0), installRecord(0, 20, impl.Account{Valid: -1})} {
			checkAnswerApart(t, "HouseOf, refused", houseArgs{1, 3, append(l[:len(l):len(l)], r)}, callHouseOf)
		}
		checkAnswerApart(t, "HouseOf, refused", houseArgs{3, 3, l}, callHouseOf)
	}
	l := []impl.Record{installRecord(0, 1, fullAccount()), installRecord(2, 1, longAccount())}
	checkAnswerApart(t, "HouseOf of full accounts", houseArgs{1, 3, l}, callHouseOf)
	draw := draws(83)
	for range 5 {
		eachHouse(func(id int, houses int) {
			l, _ := drawnHouse(draw, id, houses, 25, map[[2]int]int{})
			checkAnswerApart(t, "HouseOf", houseArgs{id, houses, l}, callHouseOf)
		})
	}
}

func TestBooksAreNewMemory(t *testing.T) {
	l := []impl.Record{moveRecord(0, 1), moveRecord(1, 2), cutRecord(0), abortRecord(1), moveRecord(2, 0)}
	for n := range len(l) + 1 {
		checkAnswerApart(t, "BookOf", bookArgs{3, l[:n]}, callBookOf)
		checkAnswerApart(t, "BookOf, refused", bookArgs{2, append(l[:n:n], moveRecord(0, 2))}, callBookOf)
	}
}

// One account that is installed for several users, and whose lists share
// memory among themselves, is not shared in the answer.
func TestAccountsThatShareMemoryAreTakenApart(t *testing.T) {
	a := smallAccount()
	text := []byte("same")
	a.Boxes[0].Mails[0].Text, a.Boxes[0].Mails[1].Text = text, text[:2]
	l := []impl.Record{installRecord(0, 2, a), installRecord(2, 2, a), bareRecord(impl.RcGrant, 0, 2)}
	for _, r := range []impl.Record{bareRecord(impl.RcGrant, 2, 2), cmdRecord(0, 10, impl.Cmd{Kind: impl.CmAppend, Box: []byte("in"), Text: text})} {
		l = append(l, r)
		h, ok := impl.HouseOf(1, 3, l)
		if !ok {
			t.Fatal("HouseOf refuses good records")
		}
		got := pieces(reflect.ValueOf(h))
		for i, x := range got {
			for _, y := range append(got[:i:i], pieces(reflect.ValueOf(l))...) {
				if x.from < y.to && y.from < x.to {
					t.Error("a list of the house shares memory")
				}
			}
		}
	}
}

// Two calls with one argument share nothing either: what is written into the
// first answer is not in the second.
func TestHousesAndBooksAreNotKept(t *testing.T) {
	for state := impl.StNone; state <= impl.StInstalled; state++ {
		l := lifeOf(state)
		want, _ := plainHouseOf(1, 3, l)
		first, _ := impl.HouseOf(1, 3, l)
		scribble(reflect.ValueOf(&first).Elem())
		checkHouse(t, "again", 1, 3, l, want)
	}
	l := []impl.Record{moveRecord(0, 1), cutRecord(0)}
	first, _ := impl.BookOf(3, l)
	scribble(reflect.ValueOf(&first).Elem())
	checkBook(t, "again", 3, l, rows(0, impl.Row{Epoch: 2, Owner: 1, Try: 2, Target: 1})...)
	for _, r := range goodRecords() {
		b, _ := impl.RecordBytes(r)
		back, _ := impl.RecordRead(b)
		scribble(reflect.ValueOf(&back).Elem())
		scribble(reflect.ValueOf(&b).Elem())
		checkRecordBytes(t, r, plainRecordBytes(r))
	}
}
