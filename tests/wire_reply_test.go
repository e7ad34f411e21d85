package tests

import (
	"bytes"
	"math"
	"slices"
	"strconv"
	"strings"
	"testing"

	"loop.example/g00359/impl"
)

// ReplyText, and promise 7: a reply that may be has a line, one for a box, one
// for each mail and each that went.

func checkReply(t *testing.T, r impl.Reply, want string) {
	t.Helper()
	if got := string(impl.ReplyText(r)); got != want {
		t.Errorf("ReplyText(%v) answers %q, want %q", r, got, want)
	}
}

func plainReplyText(r impl.Reply) string {
	l := []string{[]string{"OK", "NONE", "EXISTS", "FULL", "STALE", "BAD", "AWAY"}[r.Code] + " " + strconv.Itoa(r.Num)}
	for _, name := range r.Names {
		l[0] += " " + string(name)
	}
	b := r.Box
	if !sameBox(b, impl.Box{}) {
		l = append(l, "BOX "+string(b.Name)+" "+strconv.Itoa(b.Valid)+" "+strconv.Itoa(b.Next)+" "+strconv.Itoa(b.Seq))
	}
	for _, m := range b.Mails {
		l = append(l, "MAIL "+strconv.Itoa(m.Uid)+" "+strconv.Itoa(m.Seq)+" "+plainFlags(m.Flags)+" "+plainQuoted(m.Text))
	}
	for _, g := range b.Gones {
		l = append(l, "GONE "+strconv.Itoa(g.Uid))
	}
	return strings.Join(l, "\n") + "\n"
}

// checkLines wants a reply that may be to have its lines, each one ended.
func checkLines(t *testing.T, r impl.Reply) {
	t.Helper()
	checkReply(t, r, plainReplyText(r))
	want := 1 + len(r.Box.Mails) + len(r.Box.Gones)
	if !sameBox(r.Box, impl.Box{}) {
		want++
	}
	b := impl.ReplyText(r)
	if bytes.Count(b, []byte{10}) != want || !bytes.HasSuffix(b, []byte{10}) {
		t.Errorf("ReplyText(%v) has not %d lines: %q", r, want, b)
	}
}

func TestReplyTextOfEachCode(t *testing.T) {
	for code, word := range []string{"OK", "NONE", "EXISTS", "FULL", "STALE", "BAD", "AWAY"} {
		checkReply(t, impl.Reply{Code: code}, word+" 0\n")
		checkReply(t, impl.Reply{Code: code, Num: 12, Names: [][]byte{[]byte("b")}}, word+" 12 b\n")
		r := impl.Reply{Code: code, Num: 3, Box: impl.Box{Name: []byte("in"), Valid: 1, Next: 1}}
		checkReply(t, r, word+" 3\nBOX in 1 1 0\n")
	}
	for _, code := range []int{math.MinInt, -2, -1, 7, 8, math.MaxInt} {
		checkReply(t, impl.Reply{Code: code}, "")
		checkReply(t, impl.Reply{Code: code, Num: 1, Names: [][]byte{[]byte("a")}, Box: smallAccount().Boxes[0]}, "")
	}
}

func TestReplyTextOfNums(t *testing.T) {
	for n, want := range map[int]string{
		math.MinInt: "", -1: "", 0: "OK 0\n", 1: "OK 1\n", 10: "OK 10\n", 999999: "OK 999999\n", 1000000: "OK 1000000\n",
		1000001: "", math.MaxInt: "",
	} {
		checkReply(t, impl.Reply{Num: n}, want)
	}
}

func TestReplyTextOfNames(t *testing.T) {
	names := func(l ...string) impl.Reply {
		var r impl.Reply
		for _, s := range l {
			r.Names = append(r.Names, []byte(s))
		}
		return r
	}
	checkReply(t, names("a"), "OK 0 a\n")
	checkReply(t, names("a", "zzzzzz"), "OK 0 a zzzzzz\n")
	checkReply(t, names("a", "b", "c", "d"), "OK 0 a b c d\n")
	checkReply(t, names("abcdef", "abcdef", "abcdef", "abcdef"), "OK 0 abcdef abcdef abcdef abcdef\n")
	checkReply(t, names("d", "c", "b", "b"), "OK 0 d c b b\n")
	checkReply(t, names("a", "b", "c", "d", "e"), "")
	checkReply(t, impl.Reply{Names: make([][]byte, 100000)}, "")
	checkReply(t, impl.Reply{Names: [][]byte{}}, "OK 0\n")
	for _, s := range edgeNames() {
		for i := range impl.MaxBoxes {
			l := []string{"a", "b", "c", "d"}
			l[i] = s
			want := ""
			if plainName([]byte(s)) {
				want = "OK 0 " + strings.Join(l, " ") + "\n"
			}
			checkReply(t, names(l...), want)
		}
	}
}

func TestReplyTextOfAZeroBox(t *testing.T) {
	checkReply(t, impl.Reply{Num: 5}, "OK 5\n")
	empty := impl.Box{Name: []byte{}, Mails: []impl.Mail{}, Gones: []impl.Gone{}}
	checkReply(t, impl.Reply{Num: 5, Box: empty}, "OK 5\n")
	empty = impl.Box{Name: make([]byte, 0, 9), Mails: make([]impl.Mail, 0, 9), Gones: make([]impl.Gone, 0, 9)}
	checkReply(t, impl.Reply{Num: 5, Box: empty}, "OK 5\n")
	for _, b := range []impl.Box{
		{Name: []byte("a")}, {Valid: 1}, {Next: 1}, {Seq: 1}, {Lost: 1}, {Lost: -1}, {Seq: -1},
		{Mails: make([]impl.Mail, 1)}, {Gones: make([]impl.Gone, 1)}, {Valid: 1, Next: 1}, {Name: []byte("a"), Next: 1}, {Name: []byte("a"), Valid: 1},
	} {
		checkReply(t, impl.Reply{Num: 5, Box: b}, "")
	}
}

func TestReplyTextOfBoxes(t *testing.T) {
	checkReply(t, impl.Reply{Num: 2, Box: smallAccount().Boxes[0]},
		"OK 2\nBOX in 7 6 20\nMAIL 2 12 (SA) \"two\"\nMAIL 4 4 (D) \"four\"\nGONE 5\nGONE 1\n")
	checkReply(t, impl.Reply{Box: smallAccount().Boxes[1]}, "OK 0\nBOX out 2 1 0\n")
	b := smallAccount().Boxes[0]
	b.Gones = nil
	checkReply(t, impl.Reply{Box: b}, "OK 0\nBOX in 7 6 20\nMAIL 2 12 (SA) \"two\"\nMAIL 4 4 (D) \"four\"\n")
	b = smallAccount().Boxes[0]
	b.Mails = nil
	checkReply(t, impl.Reply{Box: b, Names: [][]byte{[]byte("q"), []byte("in")}}, "OK 0 q in\nBOX in 7 6 20\nGONE 5\nGONE 1\n")
	most := impl.Box{Name: []byte("abcdef"), Valid: 1000000, Next: 1000000, Seq: 1000000, Lost: 1000000,
		Mails: []impl.Mail{{Uid: 999998, Flags: 31, Seq: 1000000, Text: bytes.Repeat([]byte{92}, 30)}},
		Gones: []impl.Gone{{Uid: 999999, Seq: 1000000}}}
	checkReply(t, impl.Reply{Code: impl.RpStale, Num: 1000000, Box: most},
		"STALE 1000000\nBOX abcdef 1000000 1000000 1000000\nMAIL 999998 1000000 (SAFDR) \""+strings.Repeat(`\\`, 30)+"\"\nGONE 999999\n")
	checkLines(t, impl.Reply{Box: fullBox("a", 1)})
	for _, a := range someAccounts() {
		for _, b := range a.Boxes {
			checkLines(t, impl.Reply{Num: 7, Box: b})
		}
	}
}

func TestReplyTextOfMails(t *testing.T) {
	for flags := range 32 {
		for _, text := range []string{"", " ", `"`, `\`, `\"`, `a"b`, "~", strings.Repeat(`"`, 30)} {
			b := impl.Box{Name: []byte("a"), Valid: 1, Next: 5, Seq: 9, Mails: []impl.Mail{{Uid: 3, Flags: flags, Seq: 8, Text: []byte(text)}}}
			checkReply(t, impl.Reply{Box: b}, "OK 0\nBOX a 1 5 9\nMAIL 3 8 "+plainFlags(flags)+" "+plainQuoted([]byte(text))+"\n")
			checkLines(t, impl.Reply{Box: b})
		}
	}
}

// A box must be as AccountOk wants one, its Valid being in 1 .. MaxSeq.
func TestReplyTextOfBoxesThatMayNotBe(t *testing.T) {
	for why, a := range badAccounts() {
		for i, b := range a.Boxes {
			alone := impl.Account{Valid: impl.MaxSeq, Boxes: []impl.Box{b}}
			if impl.AccountOk(alone) {
				checkLines(t, impl.Reply{Box: b})
			} else if got := impl.ReplyText(impl.Reply{Box: b}); len(got) != 0 {
				t.Errorf("%s: ReplyText of box %d answers %q", why, i, got)
			}
		}
	}
	for n, want := range map[int]bool{math.MinInt: false, -1: false, 0: false, 1: true, 7: true, 1000000: true, 1000001: false, math.MaxInt: false} {
		b := smallAccount().Boxes[0]
		b.Valid = n
		if got := impl.ReplyText(impl.Reply{Box: b}); len(got) > 0 != want {
			t.Errorf("a box with Valid %d: ReplyText answers %q", n, got)
		}
	}
	for i, change := range []func(*impl.Box){
		func(b *impl.Box) { b.Name = nil },
		func(b *impl.Box) { b.Name = []byte("IN") },
		func(b *impl.Box) { b.Next = 5 },
		func(b *impl.Box) { b.Seq = 14 },
		func(b *impl.Box) { b.Lost = 14 },
		func(b *impl.Box) { b.Lost = -1 },
		func(b *impl.Box) { slices.Reverse(b.Mails) },
		func(b *impl.Box) { b.Mails[1].Flags = 32 },
		func(b *impl.Box) { b.Mails[1].Text = []byte{10} },
		func(b *impl.Box) { b.Mails[1].Text = bytes.Repeat([]byte("x"), 31) },
		func(b *impl.Box) { b.Gones[0].Uid = 4 },
		func(b *impl.Box) { slices.Reverse(b.Gones) },
		func(b *impl.Box) { b.Mails = make([]impl.Mail, 100000) },
		func(b *impl.Box) { b.Gones = make([]impl.Gone, 100000) },
	} {
		b := smallAccount().Boxes[0]
		change(&b)
		if got := impl.ReplyText(impl.Reply{Box: b}); len(got) != 0 {
			t.Errorf("change %d: ReplyText answers %q", i, got)
		}
	}
	full := fullBox("a", 1)
	full.Mails = append(full.Mails, impl.Mail{Uid: full.Next, Seq: 1})
	full.Next++
	checkReply(t, impl.Reply{Box: full}, "")
}

// Whatever Do replies may be, and has its lines.
func TestRepliesOfLivesHaveTheirLines(t *testing.T) {
	met := map[int]int{}
	walk(t, 100, 150, func(life int, was impl.Account, c impl.Cmd, is impl.Account, r impl.Reply) {
		checkLines(t, r)
		met[r.Code]++
		r.Code = impl.RpAway
		checkLines(t, r)
	})
	for _, code := range []int{impl.RpWell, impl.RpNone, impl.RpExists, impl.RpFull, impl.RpStale} {
		if met[code] < 20 {
			t.Errorf("code %d was met %d times alone", code, met[code])
		}
	}
	_, bad := impl.Do(impl.Account{Valid: -1}, impl.Cmd{})
	checkReply(t, bad, "BAD 0\n")
}
