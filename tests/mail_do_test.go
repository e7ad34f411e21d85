package tests

import (
	"math"
	"slices"
	"testing"

	"loop.example/g00359/impl"
)

// Promises 3 and 5, command by command: which code counts, what is done, and
// what stays as it was.

// expect wants Do to answer this reply, and the account that change makes of
// a; as it was, if change is nil.
func expect(t *testing.T, why string, a impl.Account, c impl.Cmd, want impl.Reply, change func(*impl.Account)) impl.Account {
	t.Helper()
	wanted := cloned(a)
	if change != nil {
		change(&wanted)
	}
	got, r := impl.Do(a, c)
	if !sameReply(r, want) {
		t.Errorf("%s: Do of %v answers\n%v, want\n%v", why, c, r, want)
	}
	if !sameAccount(got, wanted) {
		t.Errorf("%s: Do of %v leaves\n%v, want\n%v", why, c, got, wanted)
	}
	if !impl.AccountOk(got) {
		t.Errorf("%s: Do of %v leaves what is not AccountOk", why, c)
	}
	return got
}

func stale(n int) impl.Reply { return impl.Reply{Code: impl.RpStale, Num: n} }

func inCmd(kind int) impl.Cmd { return impl.Cmd{Kind: kind, Box: []byte("in")} }

func storeCmd(uid int, mode int, flags int, since int) impl.Cmd {
	return impl.Cmd{Kind: impl.CmStore, Box: []byte("in"), Uid: uid, Mode: mode, Flags: flags, Since: since}
}

func copyCmd(to string, uid int, mode int) impl.Cmd {
	return impl.Cmd{Kind: impl.CmCopy, Box: []byte("in"), To: []byte(to), Uid: uid, Mode: mode}
}

// changed answers smallAccount with its first box so changed.
func changed(change func(*impl.Box)) impl.Account {
	a := smallAccount()
	change(&a.Boxes[0])
	return a
}

// filled answers smallAccount with MaxMsgs mails in the box of this number.
func filled(i int) impl.Account {
	a := smallAccount()
	b := &a.Boxes[i]
	for len(b.Mails) < impl.MaxMsgs {
		b.Seq++
		b.Mails = append(b.Mails, impl.Mail{Uid: b.Next, Seq: b.Seq, Text: []byte("more")})
		b.Next++
	}
	return a
}

func TestDoRefusesWhatIsNotAsItShouldBe(t *testing.T) {
	bad := smallAccount()
	bad.Boxes[1].Next = 0
	check := func(a impl.Account, c impl.Cmd) {
		got, r := impl.Do(a, c)
		if !sameAccount(got, impl.Account{}) || !sameReply(r, code(impl.RpBad)) {
			t.Errorf("Do of %v answers %v, %v, want the zero value and RpBad", c, got, r)
		}
	}
	for _, c := range goodCmds() {
		check(bad, c)
		check(impl.Account{Valid: -1}, c)
		for _, x := range variants(c) {
			check(bad, x)
			if !plainCmdOk(x) {
				check(smallAccount(), x)
				check(impl.Account{}, x)
			}
		}
	}
	for _, kind := range []int{math.MinInt, -1, 10, math.MaxInt} {
		check(smallAccount(), inCmd(kind))
	}
}

func TestDoWithoutTheBox(t *testing.T) {
	full := fullAccount()
	for _, c := range goodCmds() {
		if c.Kind == impl.CmCreate || c.Kind == impl.CmList {
			continue
		}
		expect(t, "no account", impl.Account{}, c, code(impl.RpNone), nil)
		c.Box = []byte("inb")
		expect(t, "no box of this name", full, c, code(impl.RpNone), nil)
		c.Box = []byte("b")
		expect(t, "a name that none begins with", full, c, code(impl.RpNone), nil)
	}
}

func TestCreate(t *testing.T) {
	a := impl.Account{Seen: []int{4}}
	for i, name := range []string{"m", "z", "a", "mm"} {
		a = expect(t, name, a, impl.Cmd{Box: []byte(name)}, num(i+1), func(a *impl.Account) {
			at := []int{0, 1, 0, 2}[i]
			a.Boxes = slices.Insert(a.Boxes, at, impl.Box{Name: []byte(name), Valid: i + 1, Next: 1})
			a.Valid = i + 1
		})
	}
	expect(t, "a fifth one", a, impl.Cmd{Box: []byte("b")}, code(impl.RpFull), nil)
	expect(t, "there is one, and there are MaxBoxes", a, impl.Cmd{Box: []byte("mm")}, code(impl.RpExists), nil)
}

func TestCreateAtTheLimits(t *testing.T) {
	in, b := inCmd(impl.CmCreate), impl.Cmd{Box: []byte("b")}
	a := smallAccount()
	a.Valid = impl.MaxSeq - 1
	a = expect(t, "Valid at MaxSeq - 1", a, b, num(impl.MaxSeq), func(a *impl.Account) {
		a.Valid = impl.MaxSeq
		a.Boxes = slices.Insert(a.Boxes, 0, impl.Box{Name: []byte("b"), Valid: impl.MaxSeq, Next: 1})
	})
	expect(t, "Valid at MaxSeq", a, impl.Cmd{Box: []byte("c")}, code(impl.RpFull), nil)
	expect(t, "there is one, and Valid at MaxSeq", a, in, code(impl.RpExists), nil)
	expect(t, "Valid at MaxSeq, no box", impl.Account{Valid: impl.MaxSeq}, b, code(impl.RpFull), nil)
}

// A box that is made again has another Valid, and nothing of the one before.
func TestDelete(t *testing.T) {
	a := expect(t, "with mails", smallAccount(), inCmd(impl.CmDelete), num(0), func(a *impl.Account) { a.Boxes = a.Boxes[1:] })
	expect(t, "twice", a, inCmd(impl.CmDelete), code(impl.RpNone), nil)
	a = expect(t, "made again", a, inCmd(impl.CmCreate), num(8), func(a *impl.Account) {
		a.Valid = 8
		a.Boxes = slices.Insert(a.Boxes, 0, impl.Box{Name: []byte("in"), Valid: 8, Next: 1})
	})
	expect(t, "fetched", a, impl.Cmd{Kind: impl.CmFetch, Box: []byte("in"), Uid: 2}, code(impl.RpNone), nil)
	full := fullAccount()
	for i := range full.Boxes {
		c := impl.Cmd{Kind: impl.CmDelete, Box: full.Boxes[i].Name}
		expect(t, "one of MaxBoxes", full, c, num(0), func(a *impl.Account) { a.Boxes = slices.Delete(a.Boxes, i, i+1) })
	}
}

func TestList(t *testing.T) {
	list := impl.Cmd{Kind: impl.CmList}
	expect(t, "no box", impl.Account{}, list, impl.Reply{}, nil)
	expect(t, "two", smallAccount(), list, impl.Reply{Names: [][]byte{[]byte("in"), []byte("out")}}, nil)
	names := [][]byte{[]byte("a"), []byte("inbox"), []byte("out"), []byte("zzzzzz")}
	expect(t, "MaxBoxes", fullAccount(), list, impl.Reply{Names: names}, nil)
}

func TestAppend(t *testing.T) {
	c := inCmd(impl.CmAppend)
	c.Flags, c.Text = 31, []byte("new")
	expect(t, "behind others", smallAccount(), c, num(6), func(a *impl.Account) {
		b := &a.Boxes[0]
		b.Mails = append(b.Mails, impl.Mail{Uid: 6, Flags: 31, Seq: 21, Text: []byte("new")})
		b.Next, b.Seq = 7, 21
	})
	c.Box, c.Flags, c.Text = []byte("out"), 0, nil
	expect(t, "into an empty box", smallAccount(), c, num(1), func(a *impl.Account) {
		b := &a.Boxes[1]
		b.Mails = []impl.Mail{{Uid: 1, Seq: 1}}
		b.Next, b.Seq = 2, 1
	})
}

func TestAppendAtTheLimits(t *testing.T) {
	c := inCmd(impl.CmAppend)
	comes := func(a *impl.Account) {
		b := &a.Boxes[0]
		b.Seq++
		b.Mails = append(b.Mails, impl.Mail{Uid: b.Next, Seq: b.Seq})
		b.Next++
	}
	one := changed(func(b *impl.Box) { b.Next = impl.MaxSeq - 1 })
	expect(t, "Next at MaxSeq - 1", one, c, num(impl.MaxSeq-1), comes)
	one = changed(func(b *impl.Box) { b.Seq = impl.MaxSeq - 1 })
	expect(t, "Seq at MaxSeq - 1", one, c, num(6), comes)
	none := changed(func(b *impl.Box) { b.Next = impl.MaxSeq })
	expect(t, "Next at MaxSeq", none, c, code(impl.RpFull), nil)
	none = changed(func(b *impl.Box) { b.Seq = impl.MaxSeq })
	expect(t, "Seq at MaxSeq", none, c, code(impl.RpFull), nil)
	expect(t, "MaxMsgs mails", filled(0), c, code(impl.RpFull), nil)
	expect(t, "MaxMsgs mails in another box", filled(1), c, num(6), comes)
	last := filled(0)
	last.Boxes[0].Mails = last.Boxes[0].Mails[1:]
	expect(t, "MaxMsgs - 1 mails", last, c, num(16), comes)
}

func TestStoreInEachMode(t *testing.T) {
	for _, x := range []struct {
		mode, flags, want int
	}{
		{0, 0, 0}, {0, 4, 4}, {0, 31, 31}, {0, 2, 2},
		{1, 4, 7}, {1, 6, 7}, {1, 31, 31}, {1, 28, 31},
		{2, 1, 2}, {2, 2, 1}, {2, 31, 0}, {2, 6, 1},
	} {
		expect(t, "other flags", smallAccount(), storeCmd(2, x.mode, x.flags, 0), num(21), func(a *impl.Account) {
			b := &a.Boxes[0]
			b.Seq = 21
			b.Mails[0].Flags, b.Mails[0].Seq = x.want, 21
		})
		full := changed(func(b *impl.Box) { b.Seq = impl.MaxSeq })
		expect(t, "other flags, Seq at MaxSeq", full, storeCmd(2, x.mode, x.flags, 0), code(impl.RpFull), nil)
		near := changed(func(b *impl.Box) { b.Seq = impl.MaxSeq - 1 })
		expect(t, "other flags, Seq at MaxSeq - 1", near, storeCmd(2, x.mode, x.flags, 0), num(impl.MaxSeq), func(a *impl.Account) {
			b := &a.Boxes[0]
			b.Seq = impl.MaxSeq
			b.Mails[0].Flags, b.Mails[0].Seq = x.want, impl.MaxSeq
		})
	}
}

func TestStoreOfFlagsThatStayTheSame(t *testing.T) {
	for _, x := range [][2]int{{0, 3}, {1, 0}, {1, 1}, {1, 3}, {2, 0}, {2, 4}, {2, 28}} {
		for _, since := range []int{0, 12, 13, impl.MaxSeq} {
			c := storeCmd(2, x[0], x[1], since)
			expect(t, "the same flags", smallAccount(), c, num(12), nil)
			full := changed(func(b *impl.Box) { b.Seq = impl.MaxSeq })
			expect(t, "the same flags, Seq at MaxSeq", full, c, num(12), nil)
		}
	}
}

func TestStoreSince(t *testing.T) {
	done := func(a *impl.Account) {
		b := &a.Boxes[0]
		b.Seq = 21
		b.Mails[0].Flags, b.Mails[0].Seq = 16, 21
	}
	for _, since := range []int{0, 12, 13, 20, impl.MaxSeq} {
		expect(t, "not stale", smallAccount(), storeCmd(2, 0, 16, since), num(21), done)
	}
	full := changed(func(b *impl.Box) { b.Seq = impl.MaxSeq })
	for _, since := range []int{1, 10, 11} {
		for _, flags := range []int{3, 16} {
			expect(t, "stale", smallAccount(), storeCmd(2, 0, flags, since), stale(12), nil)
			expect(t, "stale, Seq at MaxSeq", full, storeCmd(2, 0, flags, since), stale(12), nil)
		}
	}
}

func TestStoreWithoutTheMail(t *testing.T) {
	full := changed(func(b *impl.Box) { b.Seq = impl.MaxSeq })
	for _, uid := range []int{1, 3, 5, 6, impl.MaxSeq} {
		expect(t, "no mail", smallAccount(), storeCmd(uid, 0, 1, 0), code(impl.RpNone), nil)
		expect(t, "no mail, stale if it were", smallAccount(), storeCmd(uid, 0, 1, 1), code(impl.RpNone), nil)
		expect(t, "no mail, Seq at MaxSeq", full, storeCmd(uid, 0, 1, 1), code(impl.RpNone), nil)
	}
	c := storeCmd(2, 0, 1, 0)
	c.Box = []byte("out")
	expect(t, "a mail of another box", smallAccount(), c, code(impl.RpNone), nil)
}

func TestExpunge(t *testing.T) {
	c := inCmd(impl.CmExpunge)
	none := changed(func(b *impl.Box) { b.Mails[1].Flags = 31 - impl.FlDeleted })
	expect(t, "none", none, c, num(0), nil)
	none.Boxes[0].Seq = impl.MaxSeq
	expect(t, "none, Seq at MaxSeq", none, c, num(0), nil)
	expect(t, "some", smallAccount(), c, num(1), func(a *impl.Account) {
		b := &a.Boxes[0]
		b.Seq = 21
		b.Mails = b.Mails[:1]
		b.Gones = append(b.Gones, impl.Gone{Uid: 4, Seq: 21})
	})
	all := func(b *impl.Box) { b.Mails[0].Flags, b.Seq = 31, impl.MaxSeq-1 }
	expect(t, "all", changed(all), c, num(2), func(a *impl.Account) {
		b := &a.Boxes[0]
		b.Seq = impl.MaxSeq
		b.Mails = nil
		b.Gones = append(b.Gones, impl.Gone{Uid: 2, Seq: impl.MaxSeq}, impl.Gone{Uid: 4, Seq: impl.MaxSeq})
	})
	expect(t, "some, Seq at MaxSeq", changed(func(b *impl.Box) { b.Seq = impl.MaxSeq }), c, code(impl.RpFull), nil)
	c.Box = []byte("out")
	expect(t, "an empty box", smallAccount(), c, num(0), nil)
}

// crowded answers a box "in" with so many Gones, whose Seqs are these or the
// last of these, and all MaxMsgs mails to be expunged.
func crowded(gones int, lost int, seqs ...int) impl.Account {
	b := fullBox("in", 1)
	b.Seq, b.Lost, b.Gones = 100, lost, b.Gones[:gones]
	for i := range b.Gones {
		b.Gones[i].Seq = seqs[min(i, len(seqs)-1)]
	}
	for i := range b.Mails {
		b.Mails[i].Flags = impl.FlDeleted
	}
	return impl.Account{Valid: 1, Boxes: []impl.Box{b}}
}

func TestGonesThatPassMaxGone(t *testing.T) {
	for _, x := range []struct {
		why   string
		a     impl.Account
		mails int
		gone  int
		lost  int
	}{
		{"up to MaxGone", crowded(28, 2, 5, 6, 7), 12, 0, 2},
		{"up to MaxGone, by one", crowded(39, 2, 5, 6, 7), 1, 0, 2},
		{"by one", crowded(40, 2, 5, 6, 7), 1, 1, 5},
		{"by one, Lost 0", crowded(40, 0, 5, 6, 7), 1, 1, 5},
		{"by two", crowded(40, 2, 5, 6, 7), 2, 2, 6},
		{"by three", crowded(40, 2, 5, 6, 7), 3, 3, 7},
		{"by some", crowded(36, 2, 5, 6, 7, 8, 9), 8, 4, 8},
		{"by twelve", crowded(40, 2, 5, 6, 7, 8), 12, 12, 8},
		{"by one, all with one Seq", crowded(40, 9, 9), 1, 1, 9},
		{"by twelve, all with the box's Seq", crowded(40, 3, 100), 12, 12, 100},
	} {
		x.a.Boxes[0].Mails = x.a.Boxes[0].Mails[:x.mails]
		expect(t, x.why, x.a, inCmd(impl.CmExpunge), num(x.mails), func(a *impl.Account) {
			b := &a.Boxes[0]
			b.Seq = 101
			for _, m := range b.Mails {
				b.Gones = append(b.Gones, impl.Gone{Uid: m.Uid, Seq: 101})
			}
			b.Mails, b.Gones, b.Lost = nil, b.Gones[x.gone:], x.lost
		})
	}
}

func TestFetch(t *testing.T) {
	told := impl.Box{Name: []byte("in"), Valid: 7, Next: 6, Seq: 20, Lost: 10}
	for i, m := range smallAccount().Boxes[0].Mails {
		c := inCmd(impl.CmFetch)
		c.Uid = m.Uid
		told.Mails = smallAccount().Boxes[0].Mails[i : i+1]
		expect(t, "a mail", smallAccount(), c, impl.Reply{Num: m.Uid, Box: told}, nil)
		c.Box = []byte("out")
		expect(t, "another box's mail", smallAccount(), c, code(impl.RpNone), nil)
	}
	for _, uid := range []int{1, 3, 5, 6, impl.MaxSeq} {
		c := inCmd(impl.CmFetch)
		c.Uid = uid
		expect(t, "no mail", smallAccount(), c, code(impl.RpNone), nil)
	}
}

func TestStatus(t *testing.T) {
	told := impl.Box{Name: []byte("in"), Valid: 7, Next: 6, Seq: 20, Lost: 10}
	expect(t, "two mails", smallAccount(), inCmd(impl.CmStatus), impl.Reply{Num: 2, Box: told}, nil)
	full := fullAccount()
	for _, b := range full.Boxes {
		told = b
		told.Mails, told.Gones = nil, nil
		expect(t, "MaxMsgs mails", full, impl.Cmd{Kind: impl.CmStatus, Box: b.Name}, impl.Reply{Num: 12, Box: told}, nil)
	}
	c := inCmd(impl.CmStatus)
	c.Box = []byte("out")
	expect(t, "no mails", smallAccount(), c, impl.Reply{Box: smallAccount().Boxes[1]}, nil)
}

func TestChanges(t *testing.T) {
	bare := impl.Box{Name: []byte("in"), Valid: 7, Next: 6, Seq: 20, Lost: 10}
	b := smallAccount().Boxes[0]
	for _, x := range []struct {
		since int
		mails []impl.Mail
		gones []impl.Gone
	}{
		{10, b.Mails[:1], b.Gones},
		{11, b.Mails[:1], b.Gones},
		{12, nil, b.Gones},
		{13, nil, b.Gones[1:]},
		{14, nil, b.Gones[1:]},
		{15, nil, nil},
		{20, nil, nil},
		{21, nil, nil},
		{impl.MaxSeq, nil, nil},
	} {
		c := inCmd(impl.CmChanges)
		c.Since = x.since
		told := bare
		told.Mails, told.Gones = x.mails, x.gones
		expect(t, "told", smallAccount(), c, impl.Reply{Box: told}, nil)
	}
	for _, since := range []int{0, 1, 8, 9} {
		c := inCmd(impl.CmChanges)
		c.Since = since
		expect(t, "below Lost", smallAccount(), c, stale(10), nil)
	}
	whole := changed(func(b *impl.Box) { b.Lost = 0 })
	expect(t, "all", whole, inCmd(impl.CmChanges), impl.Reply{Box: whole.Boxes[0]}, nil)
}

func TestCopyIntoAnotherBox(t *testing.T) {
	comes := func(a *impl.Account) {
		a.Boxes[1].Mails = []impl.Mail{{Uid: 1, Flags: 3, Seq: 1, Text: []byte("two")}}
		a.Boxes[1].Next, a.Boxes[1].Seq = 2, 1
	}
	expect(t, "it stays", smallAccount(), copyCmd("out", 2, 0), num(1), comes)
	expect(t, "it goes", smallAccount(), copyCmd("out", 2, 1), num(1), func(a *impl.Account) {
		comes(a)
		b := &a.Boxes[0]
		b.Seq = 21
		b.Mails = b.Mails[1:]
		b.Gones = append(b.Gones, impl.Gone{Uid: 2, Seq: 21})
	})
	back := impl.Cmd{Kind: impl.CmCopy, Box: []byte("out"), To: []byte("in"), Uid: 1}
	expect(t, "nothing to copy", smallAccount(), back, code(impl.RpNone), nil)
}

func TestCopyIntoTheBoxItself(t *testing.T) {
	expect(t, "it stays", smallAccount(), copyCmd("in", 2, 0), num(6), func(a *impl.Account) {
		b := &a.Boxes[0]
		b.Seq, b.Next = 21, 7
		b.Mails = append(b.Mails, impl.Mail{Uid: 6, Flags: 3, Seq: 21, Text: []byte("two")})
	})
	expect(t, "it goes", smallAccount(), copyCmd("in", 2, 1), num(6), func(a *impl.Account) {
		b := &a.Boxes[0]
		b.Seq, b.Next = 22, 7
		b.Mails = append(b.Mails[1:], impl.Mail{Uid: 6, Flags: 3, Seq: 22, Text: []byte("two")})
		b.Gones = append(b.Gones, impl.Gone{Uid: 2, Seq: 21})
	})
	expect(t, "it goes, and Gones pass MaxGone", crowded(40, 2, 5, 6), copyCmd("in", 43, 1), num(53), func(a *impl.Account) {
		b := &a.Boxes[0]
		b.Seq, b.Next, b.Lost = 102, 54, 5
		b.Mails = append(slices.Delete(b.Mails, 2, 3), impl.Mail{Uid: 53, Flags: 8, Seq: 102, Text: []byte("c")})
		b.Gones = append(b.Gones[1:], impl.Gone{Uid: 43, Seq: 101})
	})
}

func TestCopyWhatIsNone(t *testing.T) {
	for mode := range 2 {
		for _, uid := range []int{1, 3, 5, 6, impl.MaxSeq} {
			expect(t, "no mail", smallAccount(), copyCmd("out", uid, mode), code(impl.RpNone), nil)
			expect(t, "no mail, no box To", smallAccount(), copyCmd("ou", uid, mode), code(impl.RpNone), nil)
			expect(t, "no mail, To is full", filled(1), copyCmd("out", uid, mode), code(impl.RpNone), nil)
			expect(t, "no mail, the box is full", filled(0), copyCmd("in", 1, mode), code(impl.RpNone), nil)
		}
		full := changed(func(b *impl.Box) { b.Seq, b.Next = impl.MaxSeq, impl.MaxSeq })
		expect(t, "no box To", smallAccount(), copyCmd("ou", 2, mode), code(impl.RpNone), nil)
		expect(t, "no box To, Seq at MaxSeq", full, copyCmd("ou", 2, mode), code(impl.RpNone), nil)
		expect(t, "no mail, Seq at MaxSeq", full, copyCmd("in", 3, mode), code(impl.RpNone), nil)
	}
}

func TestCopyWhereToIsFull(t *testing.T) {
	for mode := range 2 {
		expect(t, "MaxMsgs mails in To", filled(1), copyCmd("out", 2, mode), code(impl.RpFull), nil)
		a := smallAccount()
		a.Boxes[1].Seq = impl.MaxSeq
		expect(t, "To's Seq at MaxSeq", a, copyCmd("out", 2, mode), code(impl.RpFull), nil)
		a = smallAccount()
		a.Boxes[1].Next = impl.MaxSeq
		expect(t, "To's Next at MaxSeq", a, copyCmd("out", 2, mode), code(impl.RpFull), nil)
		a = changed(func(b *impl.Box) { b.Next = impl.MaxSeq })
		expect(t, "Next at MaxSeq, into itself", a, copyCmd("in", 2, mode), code(impl.RpFull), nil)
		a = changed(func(b *impl.Box) { b.Seq = impl.MaxSeq })
		expect(t, "Seq at MaxSeq, into itself", a, copyCmd("in", 2, mode), code(impl.RpFull), nil)
	}
	expect(t, "MaxMsgs mails, it stays in the box itself", filled(0), copyCmd("in", 2, 0), code(impl.RpFull), nil)
}

func TestCopyWithRoomToSpare(t *testing.T) {
	moved := func(a *impl.Account) {
		b := &a.Boxes[0]
		b.Gones = append(b.Gones, impl.Gone{Uid: 2, Seq: b.Seq + 1})
		b.Mails = append(b.Mails[1:], impl.Mail{Uid: b.Next, Flags: 3, Seq: b.Seq + 2, Text: []byte("two")})
		b.Seq += 2
		b.Next++
	}
	expect(t, "MaxMsgs mails, it moves within the box", filled(0), copyCmd("in", 2, 1), num(16), moved)
	near := changed(func(b *impl.Box) { b.Next = impl.MaxSeq - 1 })
	expect(t, "Next at MaxSeq - 1, it moves within the box", near, copyCmd("in", 2, 1), num(impl.MaxSeq-1), moved)
	near = changed(func(b *impl.Box) { b.Seq = impl.MaxSeq - 2 })
	expect(t, "Seq at MaxSeq - 2, it moves within the box", near, copyCmd("in", 2, 1), num(6), moved)
	near = smallAccount()
	near.Boxes[1].Seq, near.Boxes[1].Next = impl.MaxSeq-1, impl.MaxSeq-1
	expect(t, "To's Seq and Next at MaxSeq - 1", near, copyCmd("out", 2, 0), num(impl.MaxSeq-1), func(a *impl.Account) {
		a.Boxes[1].Mails = []impl.Mail{{Uid: impl.MaxSeq - 1, Flags: 3, Seq: impl.MaxSeq, Text: []byte("two")}}
		a.Boxes[1].Seq, a.Boxes[1].Next = impl.MaxSeq, impl.MaxSeq
	})
	expect(t, "the box has MaxMsgs, To not", filled(0), copyCmd("out", 2, 0), num(1), func(a *impl.Account) {
		a.Boxes[1].Mails = []impl.Mail{{Uid: 1, Flags: 3, Seq: 1, Text: []byte("two")}}
		a.Boxes[1].Seq, a.Boxes[1].Next = 1, 2
	})
}

// With Mode 1 the box's own Seq counts, wherever To is.
func TestCopyAwayNearMaxSeq(t *testing.T) {
	comes := func(a *impl.Account) {
		a.Boxes[1].Mails = []impl.Mail{{Uid: 1, Flags: 3, Seq: 1, Text: []byte("two")}}
		a.Boxes[1].Next, a.Boxes[1].Seq = 2, 1
	}
	for _, seq := range []int{impl.MaxSeq - 1, impl.MaxSeq} {
		a := changed(func(b *impl.Box) { b.Seq = seq })
		expect(t, "it goes to another box", a, copyCmd("out", 2, 1), code(impl.RpFull), nil)
		expect(t, "it moves within the box", a, copyCmd("in", 2, 1), code(impl.RpFull), nil)
		expect(t, "it stays", a, copyCmd("out", 2, 0), num(1), comes)
	}
	a := changed(func(b *impl.Box) { b.Seq = impl.MaxSeq - 2 })
	expect(t, "it goes to another box", a, copyCmd("out", 2, 1), num(1), func(a *impl.Account) {
		comes(a)
		b := &a.Boxes[0]
		b.Seq = impl.MaxSeq - 1
		b.Mails = b.Mails[1:]
		b.Gones = append(b.Gones, impl.Gone{Uid: 2, Seq: impl.MaxSeq - 1})
	})
	a = changed(func(b *impl.Box) { b.Seq = impl.MaxSeq - 1 })
	expect(t, "it stays, in the box itself", a, copyCmd("in", 2, 0), num(6), func(a *impl.Account) {
		b := &a.Boxes[0]
		b.Seq, b.Next = impl.MaxSeq, 7
		b.Mails = append(b.Mails, impl.Mail{Uid: 6, Flags: 3, Seq: impl.MaxSeq, Text: []byte("two")})
	})
}

// An order of deeds whose replies and account can be told by hand.
func TestALifeOfOneAccount(t *testing.T) {
	steps := []struct {
		c    impl.Cmd
		want impl.Reply
	}{
		{inCmd(impl.CmCreate), num(1)},
		{impl.Cmd{Kind: impl.CmAppend, Box: []byte("in"), Text: []byte("one")}, num(1)},
		{impl.Cmd{Kind: impl.CmAppend, Box: []byte("in"), Flags: 1, Text: []byte("two")}, num(2)},
		{storeCmd(1, 1, 8, 1), num(3)},
		{storeCmd(1, 1, 8, 1), stale(3)},
		{storeCmd(1, 1, 8, 3), num(3)},
		{impl.Cmd{Box: []byte("bin")}, num(2)},
		{copyCmd("bin", 1, 1), num(1)},
		{copyCmd("bin", 1, 1), code(impl.RpNone)},
		{copyCmd("in", 2, 1), num(3)},
		{inCmd(impl.CmExpunge), num(0)},
		{impl.Cmd{Kind: impl.CmExpunge, Box: []byte("bin")}, num(1)},
		{inCmd(impl.CmCreate), code(impl.RpExists)},
	}
	var a impl.Account
	for i, x := range steps {
		var r impl.Reply
		if a, r = impl.Do(a, x.c); !sameReply(r, x.want) {
			t.Fatalf("step %d, %v: %v, want %v", i, x.c, r, x.want)
		}
	}
	want := impl.Account{Valid: 2, Boxes: []impl.Box{
		{Name: []byte("bin"), Valid: 2, Next: 2, Seq: 2, Gones: []impl.Gone{{Uid: 1, Seq: 2}}},
		{Name: []byte("in"), Valid: 1, Next: 4, Seq: 6,
			Mails: []impl.Mail{{Uid: 3, Flags: 1, Seq: 6, Text: []byte("two")}},
			Gones: []impl.Gone{{Uid: 1, Seq: 4}, {Uid: 2, Seq: 5}}},
	}}
	if !sameAccount(a, want) {
		t.Fatalf("%v, want %v", a, want)
	}
}
