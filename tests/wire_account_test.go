package tests

import (
	"bytes"
	"slices"
	"testing"

	"loop.example/g00359/impl"
)

// AccountBytes and AccountRead, and promise 6 of accounts: they come back from
// their bytes, and whatever bytes are read as one are just its bytes.

func zeroAccount(a impl.Account) bool { return sameAccount(a, impl.Account{}) }

// checkBytes wants an account that is AccountOk to have these bytes, and to
// come back from them.
func checkBytes(t *testing.T, a impl.Account, want []byte) {
	t.Helper()
	b, ok := impl.AccountBytes(a)
	if !ok || !bytes.Equal(b, want) {
		t.Errorf("AccountBytes(%v) answers %v, %v, want %v", a, b, ok, want)
	}
	back, ok := impl.AccountRead(want)
	if !ok || !sameAccount(back, a) {
		t.Errorf("AccountRead(%v) answers %v, %v, want %v", want, back, ok, a)
	}
}

func checkNoBytes(t *testing.T, why string, a impl.Account) {
	t.Helper()
	if b, ok := impl.AccountBytes(a); ok || len(b) != 0 {
		t.Errorf("%s: AccountBytes(%v) answers %v, %v", why, a, b, ok)
	}
}

func checkNoAccount(t *testing.T, why string, b []byte) {
	t.Helper()
	if a, ok := impl.AccountRead(b); ok || !zeroAccount(a) {
		t.Errorf("%s: AccountRead(%v) answers %v, %v", why, b, a, ok)
	}
}

// checkJustItsBytes wants bytes to be read as the plain reader reads them, and
// to be just the bytes of what they are read as; it answers whether they are.
func checkJustItsBytes(t *testing.T, b []byte) bool {
	t.Helper()
	a, ok := impl.AccountRead(b)
	want, wantOk := plainAccountRead(b)
	if ok != wantOk || !sameAccount(a, want) {
		t.Errorf("AccountRead(%v) answers %v, %v, want %v, %v", b, a, ok, want, wantOk)
	}
	if !ok {
		return false
	}
	again, ok := impl.AccountBytes(a)
	if !ok || !bytes.Equal(again, b) {
		t.Errorf("AccountRead(%v) answers %v, whose bytes are %v", b, a, again)
	}
	return true
}

func TestKnownAccountBytes(t *testing.T) {
	checkBytes(t, impl.Account{}, []byte{0, 0, 0})
	checkBytes(t, impl.Account{Boxes: []impl.Box{}, Seen: []int{}}, []byte{0, 0, 0})
	checkBytes(t, impl.Account{Valid: 1000000}, []byte{192, 132, 61, 0, 0})
	checkBytes(t, impl.Account{Seen: []int{1, 127, 128, 1000000}}, []byte{0, 0, 4, 1, 127, 128, 1, 192, 132, 61})
	checkBytes(t, smallAccount(), []byte{
		7, 2,
		2, 'i', 'n', 7, 6, 20, 10,
		2, 2, 3, 12, 3, 't', 'w', 'o', 4, 8, 4, 4, 'f', 'o', 'u', 'r',
		2, 5, 13, 1, 15,
		3, 'o', 'u', 't', 2, 1, 0, 0, 0, 0,
		3, 3, 5, 9,
	})
}

// longAccount has all that takes room at its greatest.
func longAccount() impl.Account {
	a := fullAccount()
	a.Valid = impl.MaxSeq
	for i := range a.Boxes {
		b := &a.Boxes[i]
		b.Valid, b.Next, b.Seq = impl.MaxSeq-i, impl.MaxSeq, impl.MaxSeq
		b.Name = bytes.Repeat([]byte{byte('a' + i)}, impl.MaxName)
		for j := range b.Mails {
			b.Mails[j] = impl.Mail{Uid: impl.MaxSeq - 100 + j, Flags: 31, Seq: impl.MaxSeq, Text: bytes.Repeat([]byte{126}, impl.MaxText)}
		}
		for j := range b.Gones {
			b.Gones[j] = impl.Gone{Uid: impl.MaxSeq - 50 + j, Seq: impl.MaxSeq}
		}
		b.Lost = impl.MaxSeq
	}
	for i := range a.Seen {
		a.Seen[i] = impl.MaxSeq - impl.MaxSeen + 1 + i
	}
	return a
}

// someAccounts are as they should be, with no box and with all there may be.
func someAccounts() []impl.Account {
	l := []impl.Account{
		{},
		{Valid: impl.MaxSeq},
		{Valid: 1, Boxes: []impl.Box{{Name: []byte("a"), Valid: 1, Next: 1}}},
		{Seen: []int{1}},
		smallAccount(), fullAccount(), longAccount(), crowded(40, 2, 5, 6), filled(0), filled(1),
	}
	for _, n := range []int{1, 59, 60} {
		a := fullAccount()
		a.Seen, a.Boxes = a.Seen[:n], a.Boxes[:2]
		l = append(l, a)
	}
	for _, n := range []int{0, 1, 11} {
		a := fullAccount()
		a.Boxes[1].Mails, a.Boxes[3].Gones = a.Boxes[1].Mails[:n], a.Boxes[3].Gones[:n]
		l = append(l, a)
	}
	return l
}

func TestAccountsComeBackFromTheirBytes(t *testing.T) {
	for _, a := range someAccounts() {
		checkBytes(t, a, plainAccountBytes(a))
	}
	long, _ := impl.AccountBytes(longAccount())
	// A count, a Flags and a text's size take a byte each, all other numbers three.
	if want := 4 + 4*(7+12+1+12*(3+1+3+31)+1+40*6) + 1 + 60*3; len(long) != want {
		t.Errorf("the longest account has %d bytes, want %d", len(long), want)
	}
}

func TestDrawnAccountsComeBack(t *testing.T) {
	draw := draws(31)
	for range 2000 {
		a := drawnAccount(draw)
		checkBytes(t, a, plainAccountBytes(a))
	}
	walk(t, 60, 60, func(life int, was impl.Account, c impl.Cmd, is impl.Account, r impl.Reply) {
		checkBytes(t, is, plainAccountBytes(is))
	})
}

// badAccounts are not AccountOk; but for those with numbers below 0, they have
// bytes of the like form.
func badAccounts() map[string]impl.Account {
	l := map[string]impl.Account{}
	add := func(why string, base func() impl.Account, change func(*impl.Account)) {
		a := base()
		change(&a)
		l[why] = a
	}
	add("Valid MaxSeq + 1", smallAccount, func(a *impl.Account) { a.Valid = impl.MaxSeq + 1 })
	add("Valid below a box's", smallAccount, func(a *impl.Account) { a.Valid = 6 })
	add("a box too many", fullAccount, func(a *impl.Account) {
		a.Boxes = append(a.Boxes, impl.Box{Name: []byte("zzzzzzz")[:6], Valid: 9, Next: 1})
		a.Boxes[3].Name = []byte("y")
	})
	add("boxes turned round", smallAccount, func(a *impl.Account) { slices.Reverse(a.Boxes) })
	add("two boxes with one name", smallAccount, func(a *impl.Account) { a.Boxes[1].Name = []byte("in") })
	add("two boxes with one Valid", smallAccount, func(a *impl.Account) { a.Boxes[1].Valid = 7 })
	add("no name", smallAccount, func(a *impl.Account) { a.Boxes[0].Name = nil })
	add("a long name", smallAccount, func(a *impl.Account) { a.Boxes[0].Name = []byte("abcdefg") })
	add("a very long name", smallAccount, func(a *impl.Account) { a.Boxes[0].Name = bytes.Repeat([]byte("a"), 31) })
	add("a name of great letters", smallAccount, func(a *impl.Account) { a.Boxes[0].Name = []byte("IN") })
	add("a box with Valid 0", smallAccount, func(a *impl.Account) { a.Boxes[0].Valid = 0 })
	add("Next 0", smallAccount, func(a *impl.Account) { a.Boxes[1].Next = 0 })
	add("Next MaxSeq + 1", smallAccount, func(a *impl.Account) { a.Boxes[1].Next = impl.MaxSeq + 1 })
	add("Seq MaxSeq + 1", smallAccount, func(a *impl.Account) { a.Boxes[1].Seq = impl.MaxSeq + 1 })
	add("Lost above Seq", smallAccount, func(a *impl.Account) { a.Boxes[1].Lost = 1 })
	add("a mail too many", fullAccount, func(a *impl.Account) {
		b := &a.Boxes[3]
		b.Mails = append(b.Mails, impl.Mail{Uid: b.Next, Seq: b.Seq})
		b.Next++
	})
	add("mails turned round", smallAccount, func(a *impl.Account) { slices.Reverse(a.Boxes[0].Mails) })
	add("a mail's Uid 0", smallAccount, func(a *impl.Account) { a.Boxes[0].Mails[0].Uid = 0 })
	add("a mail's Uid Next", smallAccount, func(a *impl.Account) { a.Boxes[0].Mails[1].Uid = 6 })
	add("a mail's Flags 32", smallAccount, func(a *impl.Account) { a.Boxes[0].Mails[1].Flags = 32 })
	add("a mail's Seq 0", smallAccount, func(a *impl.Account) { a.Boxes[0].Mails[1].Seq = 0 })
	add("a mail's Seq above the box's", smallAccount, func(a *impl.Account) { a.Boxes[0].Mails[1].Seq = 21 })
	add("a mail with byte 31", smallAccount, func(a *impl.Account) { a.Boxes[0].Mails[1].Text = []byte{31} })
	add("a mail with byte 127", smallAccount, func(a *impl.Account) { a.Boxes[0].Mails[1].Text = []byte{127} })
	add("a mail with a long text", smallAccount, func(a *impl.Account) { a.Boxes[0].Mails[1].Text = bytes.Repeat([]byte("x"), 31) })
	add("a Gone too many", fullAccount, func(a *impl.Account) {
		b := &a.Boxes[0]
		b.Gones = append(b.Gones, impl.Gone{Uid: b.Next, Seq: b.Seq})
		b.Next++
	})
	add("a Gone with a mail's Uid", smallAccount, func(a *impl.Account) { a.Boxes[0].Gones[0].Uid = 2 })
	add("two Gones with one Uid", smallAccount, func(a *impl.Account) { a.Boxes[0].Gones[0].Uid = 1 })
	add("a Gone's Seq below Lost", smallAccount, func(a *impl.Account) { a.Boxes[0].Gones[0].Seq = 9 })
	add("Gones turned round", smallAccount, func(a *impl.Account) { slices.Reverse(a.Boxes[0].Gones) })
	add("a Seen too many", fullAccount, func(a *impl.Account) { a.Seen = append(a.Seen, 1000) })
	add("Seen 0", smallAccount, func(a *impl.Account) { a.Seen[0] = 0 })
	add("Seen MaxSeq + 1", smallAccount, func(a *impl.Account) { a.Seen[2] = impl.MaxSeq + 1 })
	add("two Seen alike", smallAccount, func(a *impl.Account) { a.Seen[1] = 3 })
	add("Seen turned round", smallAccount, func(a *impl.Account) { slices.Reverse(a.Seen) })
	return l
}

func TestAccountsThatMayNotBe(t *testing.T) {
	for why, a := range badAccounts() {
		checkNoBytes(t, why, a)
		checkNoAccount(t, why, plainAccountBytes(a))
	}
	for why, change := range map[string]func(*impl.Account){
		"Valid below 0":         func(a *impl.Account) { a.Valid = -1 },
		"a box's Seq below 0":   func(a *impl.Account) { a.Boxes[1].Seq = -1 },
		"a mail's Flags -1":     func(a *impl.Account) { a.Boxes[0].Mails[0].Flags = -1 },
		"a Seen below 0":        func(a *impl.Account) { a.Seen[0] = -1 },
		"a Gone's Uid below 0":  func(a *impl.Account) { a.Boxes[0].Gones[0].Uid = -1 },
		"a number above MaxNum": func(a *impl.Account) { a.Boxes[1].Next = impl.MaxNum + 1 },
	} {
		a := smallAccount()
		change(&a)
		checkNoBytes(t, why, a)
	}
}

func TestAccountBytesCutOff(t *testing.T) {
	for _, a := range someAccounts() {
		b := plainAccountBytes(a)
		for n := range len(b) {
			checkNoAccount(t, "cut off", b[:n:n])
		}
	}
	checkNoAccount(t, "no bytes", nil)
	checkNoAccount(t, "no bytes", []byte{})
}

func TestAccountBytesWithAByteMore(t *testing.T) {
	for _, a := range someAccounts() {
		b := plainAccountBytes(a)
		for x := range 256 {
			checkNoAccount(t, "a byte behind", append(b[:len(b):len(b)], byte(x)))
		}
		checkNoAccount(t, "twice", append(b[:len(b):len(b)], b...))
		checkJustItsBytes(t, append([]byte{0}, b...))
	}
}

func TestAccountBytesWithAByteTurned(t *testing.T) {
	read := 0
	for i, a := range someAccounts() {
		b := plainAccountBytes(a)
		others := []byte{0, 1, 2, 3, 31, 32, 41, 61, 97, 122, 126, 127, 128, 129, 255}
		if i <= 4 {
			others = ascendingBytes(256)
		}
		for at := range b {
			for _, other := range others {
				turned := slices.Clone(b)
				turned[at] = other
				if other != b[at] && checkJustItsBytes(t, turned) {
					read++
				}
			}
		}
	}
	if read < 1000 {
		t.Fatal(read)
	}
}

// A number that takes a byte more than it needs makes no account, wherever it
// stands.
func TestAccountBytesWithALongNumber(t *testing.T) {
	for _, a := range someAccounts() {
		count := plainPut{long: -1}
		count.account(a)
		for i := range count.put {
			p := plainPut{long: i}
			p.account(a)
			checkNoAccount(t, "a long number", p.out)
		}
	}
	checkNoAccount(t, "a number above MaxNum", []byte{128, 128, 128, 128, 8, 0, 0})
	checkNoAccount(t, "a number of six bytes", []byte{129, 128, 128, 128, 128, 0, 0, 0})
}

// Counts that nothing stands behind, or too much.
func TestAccountBytesWithOtherCounts(t *testing.T) {
	huge := impl.PutNum(nil, impl.MaxNum)
	for _, head := range [][]byte{
		{0}, {0, 0},
		{1, 1, 1, 'a', 1, 1, 0, 0}, {1, 1, 1, 'a', 1, 1, 0, 0, 0}, {1, 1, 1, 'a', 1, 1, 0, 0, 0, 0}, {1, 1},
	} {
		checkNoAccount(t, "a count of MaxNum", slices.Concat(head, huge))
		checkNoAccount(t, "a count of MaxNum", slices.Concat(head, huge, make([]byte, 5000)))
		checkNoAccount(t, "a count of MaxNum", slices.Concat(head, huge, bytes.Repeat([]byte{1}, 1000000)))
		checkNoAccount(t, "a count of 127", slices.Concat(head, []byte{127}, bytes.Repeat([]byte{1}, 5000)))
	}
	for _, a := range []impl.Account{smallAccount(), fullAccount()} {
		b := plainAccountBytes(a)
		for n := range 256 {
			turned := slices.Clone(b)
			turned[1] = byte(n)
			if read := checkJustItsBytes(t, turned); read != (n == len(a.Boxes)) {
				t.Errorf("with %d as how many boxes: %v", n, read)
			}
			turned = slices.Clone(b)
			turned[len(b)-len(a.Seen)-1] = byte(n)
			if read := checkJustItsBytes(t, turned); read != (n == len(a.Seen)) {
				t.Errorf("with %d as how many Seen: %v", n, read)
			}
		}
	}
}

func TestEveryShortListOfBytes(t *testing.T) {
	read := 0
	for size := range 8 {
		everyList([]byte{0, 1, 2, 97, 128}, size, func(b []byte) {
			if checkJustItsBytes(t, b) {
				read++
			}
		})
	}
	if read < 50 {
		t.Fatal(read)
	}
}

func TestAnyBytesAsAnAccount(t *testing.T) {
	draw := draws(37)
	for range 20000 {
		b := make([]byte, draw(60))
		for i := range b {
			b[i] = byte(draw([]int{4, 128, 256}[draw(3)]))
		}
		checkJustItsBytes(t, b)
	}
}
