package tests

import (
	"bytes"
	"testing"

	"loop.example/g00359/impl"
)

// Promises 3, 4 and 5 behind any commands: long lives of accounts, some of
// which begin near a limit.

func someNames() []string { return []string{"a", "b", "in", "inbox", "zzzzzz"} }

// drawnBox is a box as it should be; its numbers may be near their limits.
func drawnBox(draw func(int) int, name string, valid int) impl.Box {
	b := impl.Box{Name: []byte(name), Valid: valid, Next: 1 + draw(80)}
	if draw(5) == 0 {
		b.Next = impl.MaxSeq - draw(4)
	}
	b.Seq = 40 + draw(60)
	if draw(5) == 0 {
		b.Seq = impl.MaxSeq - draw(5)
	}
	if draw(2) == 0 {
		b.Lost = draw(40)
	}
	goneSeq := max(1, b.Lost)
	first := max(1, b.Next-56)
	for uid := first; uid < b.Next; uid++ {
		goneSeq += draw(2)
		if goneSeq <= b.Seq && len(b.Gones) < impl.MaxGone && draw(3) > 0 {
			b.Gones = append(b.Gones, impl.Gone{Uid: uid, Seq: goneSeq})
		} else if len(b.Mails) < impl.MaxMsgs && draw(4) > 0 {
			b.Mails = append(b.Mails, impl.Mail{Uid: uid, Flags: draw(32), Seq: 1 + draw(b.Seq), Text: drawnText(draw)})
		}
	}
	return b
}

func drawnText(draw func(int) int) []byte {
	text := make([]byte, draw(impl.MaxText+1))
	for i := range text {
		text[i] = byte(32 + draw(95))
	}
	return text
}

func drawnAccount(draw func(int) int) impl.Account {
	a := impl.Account{Valid: 5 + draw(10)}
	if draw(4) == 0 {
		a.Valid = impl.MaxSeq - draw(3)
	}
	names := someNames()
	for i, name := range names[draw(2):][:4] {
		if draw(4) > 0 {
			a.Boxes = append(a.Boxes, drawnBox(draw, name, 5-i))
		}
	}
	for n := 1 + draw(9); len(a.Seen) < draw(impl.MaxSeen+1); n += 1 + draw(9) {
		a.Seen = append(a.Seen, n)
	}
	return a
}

// drawnCmd is a command as it should be that often meets a box and a mail.
func drawnCmd(draw func(int) int, a impl.Account) impl.Cmd {
	kinds := []int{0, 1, 2, 2, 2, 2, 3, 3, 3, 3, 4, 4, 5, 6, 6, 6, 6, 7, 8, 8, 9}
	c := impl.Cmd{Kind: kinds[draw(len(kinds))]}
	if c.Kind == impl.CmDelete && draw(4) > 0 {
		c.Kind = impl.CmAppend
	}
	names := someNames()
	name, uid, seq := names[draw(len(names))], 1+draw(20), draw(100)
	if len(a.Boxes) > 0 && draw(5) > 0 {
		b := a.Boxes[draw(len(a.Boxes))]
		seq = max(0, b.Lost+draw(5)-2)
		if len(b.Mails) > 0 && draw(5) > 0 {
			m := b.Mails[draw(len(b.Mails))]
			uid, seq = m.Uid, max(0, m.Seq+draw(3)-1)
		}
		if c.Kind != impl.CmCreate || draw(3) == 0 {
			name = string(b.Name)
		}
	}
	for _, letter := range plainCmdFields()[c.Kind] {
		switch letter {
		case 'B':
			c.Box = []byte(name)
		case 'T':
			c.To = []byte(names[draw(len(names))])
			if draw(4) == 0 {
				c.To = []byte(name)
			}
		case 'U':
			c.Uid = uid
		case 'M':
			c.Mode = draw(3)
		case 'm':
			c.Mode = draw(2)
		case 'F':
			c.Flags = []int{draw(32), impl.FlDeleted, impl.FlDeleted}[draw(3)]
		case 'S':
			c.Since = min(seq, impl.MaxSeq) * draw(2)
		case 'X':
			c.Text = drawnText(draw)
		}
	}
	return c
}

func mayChange(kind int) bool {
	return kind <= impl.CmExpunge || kind == impl.CmCopy
}

// walk shows each step of many lives: what was, the command, and what is.
func walk(t *testing.T, lives int, steps int, show func(life int, was impl.Account, c impl.Cmd, is impl.Account, r impl.Reply)) {
	t.Helper()
	draw := draws(7)
	for life := range lives {
		a := impl.Account{}
		if life%3 > 0 {
			a = drawnAccount(draw)
		}
		if !impl.AccountOk(a) {
			t.Fatalf("life %d begins with an account that is not AccountOk: %v", life, a)
		}
		for range steps {
			c := drawnCmd(draw, a)
			if !impl.CmdOk(c) {
				t.Fatalf("not CmdOk: %v", c)
			}
			is, r := impl.Do(a, c)
			show(life, a, c, is, r)
			if t.Failed() {
				t.FailNow()
			}
			a = is
		}
	}
}

// Each step is what the plain account answers; each kind meets all its codes.
func TestLivesAreThePlainAccounts(t *testing.T) {
	met := map[[2]int]int{}
	walk(t, 600, 150, func(life int, was impl.Account, c impl.Cmd, is impl.Account, r impl.Reply) {
		want, wantReply := plainDo(was, c)
		if !sameReply(r, wantReply) {
			t.Errorf("Do of %v and %v answers\n%v, want\n%v", was, c, r, wantReply)
		}
		if !sameAccount(is, want) {
			t.Errorf("Do of %v and %v leaves\n%v, want\n%v", was, c, is, want)
		}
		met[[2]int{c.Kind, r.Code}]++
	})
	for _, k := range [][2]int{
		{impl.CmCreate, impl.RpWell}, {impl.CmCreate, impl.RpExists}, {impl.CmCreate, impl.RpFull},
		{impl.CmDelete, impl.RpWell}, {impl.CmDelete, impl.RpNone},
		{impl.CmAppend, impl.RpWell}, {impl.CmAppend, impl.RpNone}, {impl.CmAppend, impl.RpFull},
		{impl.CmStore, impl.RpWell}, {impl.CmStore, impl.RpNone}, {impl.CmStore, impl.RpStale}, {impl.CmStore, impl.RpFull},
		{impl.CmExpunge, impl.RpWell}, {impl.CmExpunge, impl.RpNone}, {impl.CmExpunge, impl.RpFull},
		{impl.CmFetch, impl.RpWell}, {impl.CmFetch, impl.RpNone},
		{impl.CmCopy, impl.RpWell}, {impl.CmCopy, impl.RpNone}, {impl.CmCopy, impl.RpFull},
		{impl.CmStatus, impl.RpWell}, {impl.CmStatus, impl.RpNone},
		{impl.CmChanges, impl.RpWell}, {impl.CmChanges, impl.RpNone}, {impl.CmChanges, impl.RpStale},
		{impl.CmList, impl.RpWell},
	} {
		if met[k] < 20 {
			t.Errorf("kind %d met code %d %d times alone", k[0], k[1], met[k])
		}
	}
}

// Promise 3, without the plain account.
func TestWhatACommandLeaves(t *testing.T) {
	given := map[[3]int]int{}
	walk(t, 400, 150, func(life int, was impl.Account, c impl.Cmd, is impl.Account, r impl.Reply) {
		if !impl.AccountOk(is) {
			t.Errorf("Do of %v and %v leaves what is not AccountOk: %v", was, c, is)
		}
		if (r.Code != impl.RpWell || !mayChange(c.Kind)) && !sameAccount(was, is) {
			t.Errorf("Do of %v and %v, answered %v, does not leave it as it was: %v", was, c, r, is)
		}
		if r.Code == impl.RpBad || r.Code == impl.RpAway {
			t.Errorf("Do of %v and %v answers %v", was, c, r)
		}
		for i := range is.Boxes {
			checkBoxStep(t, was, c, &is.Boxes[i])
		}
		if r.Code == impl.RpWell && (c.Kind == impl.CmAppend || c.Kind == impl.CmCopy) {
			name := c.Box
			if c.Kind == impl.CmCopy {
				name = c.To
			}
			key := [3]int{life, boxOf(&is, string(name)).Valid, r.Num}
			given[key]++
			if given[key] > 1 {
				t.Errorf("the number %v is given twice", key)
			}
		}
	})
}

// checkBoxStep wants a box's new mails to have numbers that none had, and all
// that changed to have a greater Seq than all ahead of it.
func checkBoxStep(t *testing.T, was impl.Account, c impl.Cmd, b *impl.Box) {
	old := impl.Box{Next: 1}
	for _, x := range was.Boxes {
		if x.Valid == b.Valid {
			old = x
		}
	}
	if old.Valid == 0 && b.Valid <= was.Valid {
		t.Errorf("%v: a new box has Valid %d, which was given", c, b.Valid)
	}
	if b.Seq < old.Seq || b.Next < old.Next || b.Lost < old.Lost {
		t.Errorf("%v: a number went down: %v, %v", c, old, *b)
	}
	for _, m := range b.Mails {
		before := mailOf(&old, m.Uid)
		if before == nil && m.Uid < old.Next {
			t.Errorf("%v: the number %d is given again", c, m.Uid)
		}
		if (before == nil || !sameMail(*before, m)) && m.Seq <= old.Seq {
			t.Errorf("%v: the mail %d changed with Seq %d, the box's was %d", c, m.Uid, m.Seq, old.Seq)
		}
	}
	for _, m := range old.Mails {
		if mailOf(b, m.Uid) != nil {
			continue
		}
		last := b.Gones[len(b.Gones)-1]
		if last.Seq <= old.Seq {
			t.Errorf("%v: the mail %d went with Seq %d, the box's was %d", c, m.Uid, last.Seq, old.Seq)
		}
	}
	if !bytes.Equal(b.Name, old.Name) && old.Valid > 0 {
		t.Errorf("%v: a box's name changed", c)
	}
}

// Promise 5: what was stored is so, and stored again nothing changes.
func TestStoredAgainNothingChanges(t *testing.T) {
	stored := 0
	walk(t, 200, 150, func(life int, was impl.Account, c impl.Cmd, is impl.Account, r impl.Reply) {
		if c.Kind != impl.CmStore || r.Code != impl.RpWell {
			return
		}
		stored++
		m := mailOf(boxOf(&is, string(c.Box)), c.Uid)
		so := m.Flags == c.Flags
		if c.Mode == 1 {
			so = m.Flags&c.Flags == c.Flags
		} else if c.Mode == 2 {
			so = m.Flags&c.Flags == 0
		}
		if !so || m.Seq != r.Num {
			t.Errorf("%v left the mail %v and answered %v", c, *m, r)
		}
		c.Since = 0
		if again, r2 := impl.Do(is, c); !sameAccount(again, is) || !sameReply(r2, r) {
			t.Errorf("%v again answered %v and left %v", c, r2, again)
		}
	})
	if stored < 500 {
		t.Fatal(stored)
	}
}

func countLike(a impl.Account, like impl.Mail) int {
	n := 0
	for _, b := range a.Boxes {
		for _, m := range b.Mails {
			if m.Flags == like.Flags && bytes.Equal(m.Text, like.Text) {
				n++
			}
		}
	}
	return n
}

// Promise 5: copied it is there once more, moved as often as it was.
func TestCopiedTwiceMovedOnce(t *testing.T) {
	copied := [2]int{}
	walk(t, 300, 150, func(life int, was impl.Account, c impl.Cmd, is impl.Account, r impl.Reply) {
		if c.Kind != impl.CmCopy || r.Code != impl.RpWell {
			return
		}
		copied[c.Mode]++
		from := *mailOf(boxOf(&was, string(c.Box)), c.Uid)
		came := mailOf(boxOf(&is, string(c.To)), r.Num)
		if came == nil || came.Flags != from.Flags || !bytes.Equal(came.Text, from.Text) {
			t.Errorf("%v of %v brought %v", c, from, came)
		}
		stays := mailOf(boxOf(&is, string(c.Box)), c.Uid)
		if c.Mode == 0 && (stays == nil || !sameMail(*stays, from)) || c.Mode == 1 && stays != nil {
			t.Errorf("%v of %v left %v", c, from, stays)
		}
		if countLike(is, from) != countLike(was, from)+1-c.Mode {
			t.Errorf("%v: %d like it were there, %d are", c, countLike(was, from), countLike(is, from))
		}
	})
	if copied[0] < 500 || copied[1] < 500 {
		t.Fatal(copied)
	}
}
