package tests

import (
	"bytes"
	"math"
	"slices"
	"strings"
	"testing"

	"loop.example/g00359/impl"
)

// What a command and an account must be (chapter 3), for promise 3.

func TestMailConstants(t *testing.T) {
	got := []int{
		impl.MaxBoxes, impl.MaxMsgs, impl.MaxName, impl.MaxFlags, impl.MaxSeq, impl.MaxGone, impl.MaxSeen,
		impl.FlSeen, impl.FlAnswered, impl.FlFlagged, impl.FlDeleted, impl.FlDraft,
		impl.CmCreate, impl.CmDelete, impl.CmAppend, impl.CmStore, impl.CmExpunge,
		impl.CmFetch, impl.CmCopy, impl.CmStatus, impl.CmChanges, impl.CmList,
		impl.RpWell, impl.RpNone, impl.RpExists, impl.RpFull, impl.RpStale, impl.RpBad, impl.RpAway,
	}
	want := []int{
		4, 12, 6, 31, 1000000, 40, 60,
		1, 2, 4, 8, 16,
		0, 1, 2, 3, 4, 5, 6, 7, 8, 9,
		0, 1, 2, 3, 4, 5, 6,
	}
	if !slices.Equal(got, want) {
		t.Fatal(got)
	}
}

// goodCmds answers a command of each kind whose fields are not zero where they
// need not be.
func goodCmds() []impl.Cmd {
	in, out := []byte("inbox"), []byte("out")
	return []impl.Cmd{
		{Kind: impl.CmCreate, Box: in},
		{Kind: impl.CmDelete, Box: in},
		{Kind: impl.CmAppend, Box: in, Flags: 5, Text: []byte("x y")},
		{Kind: impl.CmStore, Box: in, Uid: 3, Mode: 1, Flags: 8, Since: 4},
		{Kind: impl.CmExpunge, Box: in},
		{Kind: impl.CmFetch, Box: in, Uid: 3},
		{Kind: impl.CmCopy, Box: in, To: out, Uid: 3, Mode: 1},
		{Kind: impl.CmStatus, Box: in},
		{Kind: impl.CmChanges, Box: in, Since: 4},
		{Kind: impl.CmList},
	}
}

func edgeNames() []string {
	return []string{
		"", "a", "z", "az", "abcdef", "abcdefg", "aaaaaaaaaaaa",
		"`", "{", "a`", "`a", "{z", "abcde{", "A", "Z", "inboX", "a b", " ", "a1", "0", "\x00", "a\x00", "\xff", "\xe1",
	}
}

func edgeNums(most int) []int {
	return []int{math.MinInt, -1, 0, 1, most - 1, most, most + 1, math.MaxInt}
}

func edgeTexts() []string {
	return []string{
		"", " ", "~", "a", "\x1f", "\x7f", "\x80", "\xff", "\x00", "\n", "\t",
		"ab\x1f", "\x7fab", "a\x1fb", "\"\\",
		strings.Repeat("x", 29), strings.Repeat("~", 30), strings.Repeat(" ", 31), strings.Repeat("x", 300),
		strings.Repeat("x", 29) + "\x7f", strings.Repeat("x", 29) + "\x1f",
	}
}

// variants answers c with each field in turn at each of its edges.
func variants(c impl.Cmd) []impl.Cmd {
	var l []impl.Cmd
	add := func(change func(*impl.Cmd)) {
		x := c
		change(&x)
		l = append(l, x)
	}
	for _, n := range edgeNums(impl.CmList) {
		add(func(x *impl.Cmd) { x.Kind = n })
	}
	for _, s := range edgeNames() {
		add(func(x *impl.Cmd) { x.Box = []byte(s) })
		add(func(x *impl.Cmd) { x.To = []byte(s) })
	}
	for _, n := range append(edgeNums(impl.MaxSeq), 2, 3, 4, 31, 32) {
		add(func(x *impl.Cmd) { x.Uid = n })
		add(func(x *impl.Cmd) { x.Mode = n })
		add(func(x *impl.Cmd) { x.Flags = n })
		add(func(x *impl.Cmd) { x.Since = n })
	}
	for _, s := range edgeTexts() {
		add(func(x *impl.Cmd) { x.Text = []byte(s) })
	}
	return l
}

func TestCmdOkOfEachKind(t *testing.T) {
	for _, c := range goodCmds() {
		if !impl.CmdOk(c) {
			t.Errorf("CmdOk(%v) is false", c)
		}
		c.Mode, c.Flags, c.Since, c.Text = 0, 0, 0, nil
		if !impl.CmdOk(c) {
			t.Errorf("CmdOk(%v) is false", c)
		}
	}
}

func TestCmdOkOfKindsThatThereAreNot(t *testing.T) {
	for _, kind := range []int{math.MinInt, -1, impl.CmList + 1, impl.CmList + 2, math.MaxInt} {
		for _, c := range append(goodCmds(), impl.Cmd{}) {
			c.Kind = kind
			if impl.CmdOk(c) {
				t.Errorf("CmdOk(%v) is true", c)
			}
		}
	}
}

// Every kind with every field, and each two fields, at their edges.
func TestCmdOkAtTheEdges(t *testing.T) {
	good, bad := 0, 0
	check := func(c impl.Cmd) {
		want := plainCmdOk(c)
		if impl.CmdOk(c) != want {
			t.Errorf("CmdOk(%v) is not %v", c, want)
		}
		if want {
			good++
		} else {
			bad++
		}
	}
	for _, c := range goodCmds() {
		for _, x := range variants(c) {
			check(x)
			for _, y := range variants(x) {
				check(y)
			}
		}
	}
	if good < 5000 || bad < 5000 {
		t.Fatal(good, bad)
	}
}

// The limits once more, without a rule that would work them out.
func TestCmdOkLimits(t *testing.T) {
	cmds := goodCmds()
	cases := []struct {
		why    string
		kind   int
		change func(*impl.Cmd)
		want   bool
	}{
		{"no name", impl.CmCreate, func(c *impl.Cmd) { c.Box = nil }, false},
		{"a name of one byte", impl.CmCreate, func(c *impl.Cmd) { c.Box = []byte("q") }, true},
		{"a name of MaxName", impl.CmStatus, func(c *impl.Cmd) { c.Box = []byte("abcdyz") }, true},
		{"a name of MaxName + 1", impl.CmStatus, func(c *impl.Cmd) { c.Box = []byte("abcdxyz") }, false},
		{"byte 96", impl.CmDelete, func(c *impl.Cmd) { c.Box = []byte{96} }, false},
		{"byte 123", impl.CmDelete, func(c *impl.Cmd) { c.Box = []byte{123} }, false},
		{"flags below 0", impl.CmAppend, func(c *impl.Cmd) { c.Flags = -1 }, false},
		{"flags at MaxFlags", impl.CmAppend, func(c *impl.Cmd) { c.Flags = 31 }, true},
		{"flags above MaxFlags", impl.CmAppend, func(c *impl.Cmd) { c.Flags = 32 }, false},
		{"a text of MaxText", impl.CmAppend, func(c *impl.Cmd) { c.Text = bytes.Repeat([]byte{126}, 30) }, true},
		{"a text of MaxText + 1", impl.CmAppend, func(c *impl.Cmd) { c.Text = bytes.Repeat([]byte{126}, 31) }, false},
		{"byte 31", impl.CmAppend, func(c *impl.Cmd) { c.Text = []byte{31} }, false},
		{"byte 32", impl.CmAppend, func(c *impl.Cmd) { c.Text = []byte{32} }, true},
		{"byte 126", impl.CmAppend, func(c *impl.Cmd) { c.Text = []byte{126} }, true},
		{"byte 127", impl.CmAppend, func(c *impl.Cmd) { c.Text = []byte{127} }, false},
		{"Uid 0", impl.CmStore, func(c *impl.Cmd) { c.Uid = 0 }, false},
		{"Uid 1", impl.CmStore, func(c *impl.Cmd) { c.Uid = 1 }, true},
		{"Uid MaxSeq", impl.CmFetch, func(c *impl.Cmd) { c.Uid = 1000000 }, true},
		{"Uid MaxSeq + 1", impl.CmFetch, func(c *impl.Cmd) { c.Uid = 1000001 }, false},
		{"Mode below 0", impl.CmStore, func(c *impl.Cmd) { c.Mode = -1 }, false},
		{"Mode 2 of store", impl.CmStore, func(c *impl.Cmd) { c.Mode = 2 }, true},
		{"Mode 3 of store", impl.CmStore, func(c *impl.Cmd) { c.Mode = 3 }, false},
		{"Mode 0 of copy", impl.CmCopy, func(c *impl.Cmd) { c.Mode = 0 }, true},
		{"Mode 2 of copy", impl.CmCopy, func(c *impl.Cmd) { c.Mode = 2 }, false},
		{"no To", impl.CmCopy, func(c *impl.Cmd) { c.To = nil }, false},
		{"To the box itself", impl.CmCopy, func(c *impl.Cmd) { c.To = c.Box }, true},
		{"Since below 0", impl.CmChanges, func(c *impl.Cmd) { c.Since = -1 }, false},
		{"Since MaxSeq", impl.CmChanges, func(c *impl.Cmd) { c.Since = 1000000 }, true},
		{"Since MaxSeq + 1", impl.CmStore, func(c *impl.Cmd) { c.Since = 1000001 }, false},
		{"a list with a name", impl.CmList, func(c *impl.Cmd) { c.Box = []byte("a") }, false},
		{"a text that is empty, not nil", impl.CmList, func(c *impl.Cmd) { c.Text = []byte{} }, true},
		{"a To where there is none", impl.CmFetch, func(c *impl.Cmd) { c.To = []byte("a") }, false},
		{"a text where there is none", impl.CmStore, func(c *impl.Cmd) { c.Text = []byte("a") }, false},
		{"flags where there are none", impl.CmCopy, func(c *impl.Cmd) { c.Flags = 1 }, false},
		{"Since where there is none", impl.CmFetch, func(c *impl.Cmd) { c.Since = 1 }, false},
		{"Uid where there is none", impl.CmAppend, func(c *impl.Cmd) { c.Uid = 1 }, false},
		{"Mode where there is none", impl.CmFetch, func(c *impl.Cmd) { c.Mode = 1 }, false},
	}
	for _, x := range cases {
		c := cmds[x.kind]
		x.change(&c)
		if impl.CmdOk(c) != x.want {
			t.Errorf("%s: CmdOk(%v) is not %v", x.why, c, x.want)
		}
	}
}

type accountCase struct {
	why    string
	change func(*impl.Account)
	want   bool
}

func checkAccounts(t *testing.T, base func() impl.Account, cases []accountCase) {
	t.Helper()
	for _, x := range cases {
		a := base()
		x.change(&a)
		if impl.AccountOk(a) != x.want {
			t.Errorf("%s: AccountOk is not %v", x.why, x.want)
		}
	}
}

func TestAccountOkOfWhatMayBe(t *testing.T) {
	for i, a := range []impl.Account{
		{},
		{Boxes: []impl.Box{}, Seen: []int{}},
		{Valid: impl.MaxSeq},
		{Valid: 1, Boxes: []impl.Box{{Name: []byte("a"), Valid: 1, Next: 1}}},
		fullAccount(),
	} {
		if !impl.AccountOk(a) {
			t.Errorf("account %d: AccountOk is false", i)
		}
	}
}

func TestAccountOkCounts(t *testing.T) {
	checkAccounts(t, fullAccount, []accountCase{
		{"as it is", func(a *impl.Account) {}, true},
		{"one box fewer", func(a *impl.Account) { a.Boxes = a.Boxes[1:] }, true},
		{"one box more", func(a *impl.Account) {
			a.Boxes[3].Name = []byte("y")
			a.Boxes = append(a.Boxes, impl.Box{Name: []byte("z"), Valid: 9, Next: 1})
		}, false},
		{"one mail more", func(a *impl.Account) {
			b := &a.Boxes[1]
			b.Mails = append(b.Mails, impl.Mail{Uid: b.Next, Seq: b.Seq})
			b.Next++
		}, false},
		{"one mail fewer, one that went more", func(a *impl.Account) {
			b := &a.Boxes[1]
			b.Gones = append(b.Gones, impl.Gone{Uid: b.Mails[11].Uid, Seq: b.Seq})
			b.Mails = b.Mails[:11]
		}, false},
		{"one mail fewer, another one that went", func(a *impl.Account) {
			b := &a.Boxes[1]
			b.Gones = append(b.Gones[1:], impl.Gone{Uid: b.Mails[11].Uid, Seq: b.Seq})
			b.Mails = b.Mails[:11]
		}, true},
		{"one Seen more", func(a *impl.Account) { a.Seen = append(a.Seen, 500) }, false},
		{"one Seen fewer", func(a *impl.Account) { a.Seen = a.Seen[:59] }, true},
		{"very many boxes", func(a *impl.Account) { a.Boxes = make([]impl.Box, 100000) }, false},
		{"very many mails", func(a *impl.Account) { a.Boxes[0].Mails = make([]impl.Mail, 100000) }, false},
		{"very many Gones", func(a *impl.Account) { a.Boxes[0].Gones = make([]impl.Gone, 100000) }, false},
		{"very many Seen", func(a *impl.Account) { a.Seen = make([]int, 100000) }, false},
	})
}

// smallAccount has two boxes, with a mail and one that went in the first.
func smallAccount() impl.Account {
	return impl.Account{Valid: 7, Seen: []int{3, 5, 9}, Boxes: []impl.Box{
		{Name: []byte("in"), Valid: 7, Next: 6, Seq: 20, Lost: 10,
			Mails: []impl.Mail{{Uid: 2, Flags: 3, Seq: 12, Text: []byte("two")}, {Uid: 4, Flags: 8, Seq: 4, Text: []byte("four")}},
			Gones: []impl.Gone{{Uid: 5, Seq: 13}, {Uid: 1, Seq: 15}}},
		{Name: []byte("out"), Valid: 2, Next: 1},
	}}
}

// numberEdge is a number of smallAccount, with the least and the greatest that
// it may be there.
type numberEdge struct {
	why  string
	at   func(*impl.Account) *int
	low  int
	high int
}

func TestAccountOkNumbersAtTheirLimits(t *testing.T) {
	for _, e := range []numberEdge{
		{"Valid", func(a *impl.Account) *int { return &a.Valid }, 7, impl.MaxSeq},
		{"a first Seen", func(a *impl.Account) *int { return &a.Seen[0] }, 1, 4},
		{"a Seen between", func(a *impl.Account) *int { return &a.Seen[1] }, 4, 8},
		{"a last Seen", func(a *impl.Account) *int { return &a.Seen[2] }, 6, impl.MaxSeq},
		{"the first box's Valid", func(a *impl.Account) *int { return &a.Boxes[0].Valid }, 3, 7},
		{"Next", func(a *impl.Account) *int { return &a.Boxes[0].Next }, 6, impl.MaxSeq},
		{"Next of an empty box", func(a *impl.Account) *int { return &a.Boxes[1].Next }, 1, impl.MaxSeq},
		{"Seq", func(a *impl.Account) *int { return &a.Boxes[0].Seq }, 15, impl.MaxSeq},
		{"Seq of an empty box", func(a *impl.Account) *int { return &a.Boxes[1].Seq }, 0, impl.MaxSeq},
		{"Lost", func(a *impl.Account) *int { return &a.Boxes[0].Lost }, 0, 13},
		{"Lost of an empty box", func(a *impl.Account) *int { return &a.Boxes[1].Lost }, 0, 0},
		{"the first mail's Uid", func(a *impl.Account) *int { return &a.Boxes[0].Mails[0].Uid }, 2, 3},
		{"a mail's Flags", func(a *impl.Account) *int { return &a.Boxes[0].Mails[0].Flags }, 0, impl.MaxFlags},
		{"a mail's Seq", func(a *impl.Account) *int { return &a.Boxes[0].Mails[0].Seq }, 1, 20},
		{"the last mail's Seq", func(a *impl.Account) *int { return &a.Boxes[0].Mails[1].Seq }, 1, 20},
		{"a first Gone's Seq", func(a *impl.Account) *int { return &a.Boxes[0].Gones[0].Seq }, 10, 15},
		{"a last Gone's Seq", func(a *impl.Account) *int { return &a.Boxes[0].Gones[1].Seq }, 13, 20},
	} {
		for n, want := range map[int]bool{
			math.MinInt: false, e.low - 1: false, e.low: true, e.high: true, e.high + 1: false, math.MaxInt: false,
		} {
			a := smallAccount()
			*e.at(&a) = n
			if impl.AccountOk(a) != want {
				t.Errorf("%s %d: AccountOk is not %v", e.why, n, want)
			}
		}
	}
}

func TestAccountOkNumbersInEmptyAccounts(t *testing.T) {
	for n, want := range map[int]bool{-1: false, 0: true, impl.MaxSeq: true, impl.MaxSeq + 1: false} {
		if impl.AccountOk(impl.Account{Valid: n}) != want {
			t.Errorf("Valid %d: AccountOk is not %v", n, want)
		}
	}
	for n, want := range map[int]bool{-1: false, 0: false, 1: true, impl.MaxSeq: true, impl.MaxSeq + 1: false} {
		if impl.AccountOk(impl.Account{Seen: []int{n}}) != want {
			t.Errorf("Seen %d: AccountOk is not %v", n, want)
		}
		b := impl.Box{Name: []byte("a"), Valid: n, Next: 1}
		if impl.AccountOk(impl.Account{Valid: impl.MaxSeq, Boxes: []impl.Box{b}}) != want {
			t.Errorf("a box with Valid %d: AccountOk is not %v", n, want)
		}
	}
	for lost, want := range map[int]bool{-1: false, 0: true, impl.MaxSeq: true, impl.MaxSeq + 1: false} {
		b := impl.Box{Name: []byte("a"), Valid: 1, Next: 1, Seq: impl.MaxSeq, Lost: lost}
		if impl.AccountOk(impl.Account{Valid: 1, Boxes: []impl.Box{b}}) != want {
			t.Errorf("Lost %d: AccountOk is not %v", lost, want)
		}
	}
}

func TestAccountOkUids(t *testing.T) {
	checkAccounts(t, smallAccount, []accountCase{
		{"a mail's Uid 0", func(a *impl.Account) { a.Boxes[0].Mails[0].Uid = 0 }, false},
		{"a mail's Uid 1", func(a *impl.Account) { a.Boxes[0].Mails[0].Uid = 1; a.Boxes[0].Gones = nil }, true},
		{"a mail's Uid Next - 1", func(a *impl.Account) { a.Boxes[0].Mails[1].Uid = 5; a.Boxes[0].Gones = nil }, true},
		{"a mail's Uid Next", func(a *impl.Account) { a.Boxes[0].Mails[1].Uid = 6; a.Boxes[0].Gones = nil }, false},
		{"two mails with one Uid", func(a *impl.Account) { a.Boxes[0].Mails[0].Uid = 4 }, false},
		{"mails turned round", func(a *impl.Account) { slices.Reverse(a.Boxes[0].Mails) }, false},
		{"one mail's Seq as the other's", func(a *impl.Account) { a.Boxes[0].Mails[0].Seq = 4 }, true},
		{"a Gone with Uid 0", func(a *impl.Account) { a.Boxes[0].Gones[0].Uid = 0 }, false},
		{"a Gone with Uid Next", func(a *impl.Account) { a.Boxes[0].Gones[0].Uid = 6 }, false},
		{"a Gone with Uid 3", func(a *impl.Account) { a.Boxes[0].Gones[0].Uid = 3 }, true},
		{"a Gone with a first mail's Uid", func(a *impl.Account) { a.Boxes[0].Gones[1].Uid = 2 }, false},
		{"a Gone with a last mail's Uid", func(a *impl.Account) { a.Boxes[0].Gones[0].Uid = 4 }, false},
		{"two Gones with one Uid", func(a *impl.Account) { a.Boxes[0].Gones[1].Uid = 5 }, false},
		{"two Gones with one Uid, not side by side", func(a *impl.Account) {
			a.Boxes[0].Gones = append(a.Boxes[0].Gones, impl.Gone{Uid: 5, Seq: 20})
		}, false},
		{"three Gones", func(a *impl.Account) {
			a.Boxes[0].Gones = append(a.Boxes[0].Gones, impl.Gone{Uid: 3, Seq: 20})
		}, true},
		{"Gones with one Seq", func(a *impl.Account) { a.Boxes[0].Gones[1].Seq = 13 }, true},
		{"Gones turned round", func(a *impl.Account) { slices.Reverse(a.Boxes[0].Gones) }, false},
		{"a Gone's Seq below Lost", func(a *impl.Account) { a.Boxes[0].Gones[0].Seq = 9 }, false},
		{"a Gone's Seq 0, Lost 0", func(a *impl.Account) { a.Boxes[0].Lost = 0; a.Boxes[0].Gones[0].Seq = 0 }, false},
		{"a Gone's Seq 1, Lost 0", func(a *impl.Account) { a.Boxes[0].Lost = 0; a.Boxes[0].Gones[0].Seq = 1 }, true},
		{"a mail's Seq below Lost", func(a *impl.Account) { a.Boxes[0].Mails[0].Seq = 1 }, true},
	})
}

func TestAccountOkOrder(t *testing.T) {
	checkAccounts(t, smallAccount, []accountCase{
		{"boxes turned round", func(a *impl.Account) { slices.Reverse(a.Boxes) }, false},
		{"two boxes with one name", func(a *impl.Account) { a.Boxes[1].Name = []byte("in") }, false},
		{"a name that begins the next one", func(a *impl.Account) { a.Boxes[1].Name = []byte("inn") }, true},
		{"a name that the next one begins", func(a *impl.Account) { a.Boxes[1].Name = []byte("i") }, false},
		{"a longer name ahead", func(a *impl.Account) { a.Boxes[0].Name = []byte("aaaaaa") }, true},
		{"two boxes with one Valid", func(a *impl.Account) { a.Boxes[1].Valid = 7 }, false},
		{"the account's Valid below a box's", func(a *impl.Account) { a.Valid = 6 }, false},
		{"Seen turned round", func(a *impl.Account) { slices.Reverse(a.Seen) }, false},
		{"two Seen alike", func(a *impl.Account) { a.Seen = []int{3, 3} }, false},
		{"the last two Seen alike", func(a *impl.Account) { a.Seen[2] = 5 }, false},
		{"the first and the last box with one Valid", func(a *impl.Account) {
			a.Boxes = append(a.Boxes, impl.Box{Name: []byte("zz"), Valid: 7, Next: 1})
		}, false},
		{"three boxes", func(a *impl.Account) {
			a.Boxes = append(a.Boxes, impl.Box{Name: []byte("zz"), Valid: 6, Next: 1})
		}, true},
	})
}

func TestAccountOkNamesAndTexts(t *testing.T) {
	for _, s := range edgeNames() {
		a := impl.Account{Valid: 1, Boxes: []impl.Box{{Name: []byte(s), Valid: 1, Next: 1}}}
		if impl.AccountOk(a) != plainName([]byte(s)) {
			t.Errorf("a box named %q: AccountOk is not %v", s, plainName([]byte(s)))
		}
	}
	for _, s := range edgeTexts() {
		for i := range 2 {
			a := smallAccount()
			a.Boxes[0].Mails[i].Text = []byte(s)
			if impl.AccountOk(a) != plainText([]byte(s)) {
				t.Errorf("a mail with %q: AccountOk is not %v", s, plainText([]byte(s)))
			}
		}
	}
}

// A fault in any box counts, not in the first one alone.
func TestAccountOkLooksAtEachBox(t *testing.T) {
	for i := range impl.MaxBoxes {
		for _, change := range []func(*impl.Box){
			func(b *impl.Box) { b.Name = nil },
			func(b *impl.Box) { b.Valid = 0 },
			func(b *impl.Box) { b.Next = 0 },
			func(b *impl.Box) { b.Seq = -1 },
			func(b *impl.Box) { b.Lost = -1 },
			func(b *impl.Box) { b.Mails[11].Flags = 32 },
			func(b *impl.Box) { b.Mails[11].Text = []byte{31} },
			func(b *impl.Box) { b.Mails[11].Seq = b.Seq + 1 },
			func(b *impl.Box) { b.Gones[39].Uid = b.Mails[11].Uid },
			func(b *impl.Box) { b.Gones[39].Uid = b.Gones[0].Uid },
			func(b *impl.Box) { b.Gones[39].Seq = b.Gones[38].Seq - 1 },
			func(b *impl.Box) { b.Gones[39].Seq = b.Seq + 1 },
		} {
			a := fullAccount()
			change(&a.Boxes[i])
			if impl.AccountOk(a) {
				t.Errorf("box %d is not as it should be, and AccountOk is true: %v", i, a.Boxes[i])
			}
		}
	}
}
