package tests

import (
	"bytes"
	"slices"

	"loop.example/g00359/impl"
)

// What the tests of chapter 3 share: values held against each other (an empty
// list being nil's like), accounts to begin with, and a plain account that
// does commands on lists, by the document's words, without maps.

func sameMail(a impl.Mail, b impl.Mail) bool {
	return a.Uid == b.Uid && a.Flags == b.Flags && a.Seq == b.Seq && bytes.Equal(a.Text, b.Text)
}

func sameMails(a []impl.Mail, b []impl.Mail) bool {
	return slices.EqualFunc(a, b, sameMail)
}

func sameBox(a impl.Box, b impl.Box) bool {
	return bytes.Equal(a.Name, b.Name) && a.Valid == b.Valid && a.Next == b.Next && a.Seq == b.Seq &&
		a.Lost == b.Lost && sameMails(a.Mails, b.Mails) && slices.Equal(a.Gones, b.Gones)
}

func sameAccount(a impl.Account, b impl.Account) bool {
	return a.Valid == b.Valid && slices.EqualFunc(a.Boxes, b.Boxes, sameBox) && slices.Equal(a.Seen, b.Seen)
}

func sameReply(a impl.Reply, b impl.Reply) bool {
	return a.Code == b.Code && a.Num == b.Num && sameBox(a.Box, b.Box) && slices.EqualFunc(a.Names, b.Names, bytes.Equal)
}

func clonedBox(b impl.Box) impl.Box {
	b.Name = bytes.Clone(b.Name)
	b.Mails = slices.Clone(b.Mails)
	for i := range b.Mails {
		b.Mails[i].Text = bytes.Clone(b.Mails[i].Text)
	}
	b.Gones = slices.Clone(b.Gones)
	return b
}

func cloned(a impl.Account) impl.Account {
	a.Boxes = slices.Clone(a.Boxes)
	for i := range a.Boxes {
		a.Boxes[i] = clonedBox(a.Boxes[i])
	}
	a.Seen = slices.Clone(a.Seen)
	return a
}

// draws answers numbers below the one it is given, always the same ones.
func draws(seed uint32) func(below int) int {
	return func(below int) int {
		seed = seed*1664525 + 1013904223
		return int(seed>>8) % below
	}
}

// fullBox has MaxMsgs mails and MaxGone Gones; Lost is 3.
func fullBox(name string, valid int) impl.Box {
	b := impl.Box{Name: []byte(name), Valid: valid, Next: 1, Seq: 3, Lost: 3}
	for range impl.MaxGone {
		b.Seq++
		b.Gones = append(b.Gones, impl.Gone{Uid: b.Next, Seq: b.Seq})
		b.Next++
	}
	for i := range impl.MaxMsgs {
		b.Seq++
		b.Mails = append(b.Mails, impl.Mail{Uid: b.Next, Flags: i, Seq: b.Seq, Text: []byte{byte('a' + i)}})
		b.Next++
	}
	return b
}

// fullAccount has all lists at their greatest count.
func fullAccount() impl.Account {
	a := impl.Account{Valid: 9}
	for i, name := range []string{"a", "inbox", "out", "zzzzzz"} {
		a.Boxes = append(a.Boxes, fullBox(name, 8-2*i))
	}
	for i := range impl.MaxSeen {
		a.Seen = append(a.Seen, 2*i+1)
	}
	return a
}

func boxOf(a *impl.Account, name string) *impl.Box {
	for i := range a.Boxes {
		if string(a.Boxes[i].Name) == name {
			return &a.Boxes[i]
		}
	}
	return nil
}

func mailOf(b *impl.Box, uid int) *impl.Mail {
	for i := range b.Mails {
		if b.Mails[i].Uid == uid {
			return &b.Mails[i]
		}
	}
	return nil
}

// plainCmdFields names a kind's fields: Box, To, Uid, Mode, Flags, Since, Text.
func plainCmdFields() []string {
	return []string{"B", "B", "BFX", "BUMFS", "B", "BU", "BTUm", "B", "BS", ""}
}

func plainName(b []byte) bool {
	for _, x := range b {
		if x < 97 || x > 122 {
			return false
		}
	}
	return len(b) >= 1 && len(b) <= 6
}

func plainText(b []byte) bool {
	for _, x := range b {
		if x < 32 || x > 126 {
			return false
		}
	}
	return len(b) <= 30
}

func plainCmdOk(c impl.Cmd) bool {
	if c.Kind < 0 || c.Kind > 9 {
		return false
	}
	has := func(letter byte) bool { return bytes.IndexByte([]byte(plainCmdFields()[c.Kind]), letter) >= 0 }
	mode := c.Mode == 0
	if has('M') {
		mode = c.Mode >= 0 && c.Mode <= 2
	}
	if has('m') {
		mode = c.Mode == 0 || c.Mode == 1
	}
	return mode &&
		(has('B') && plainName(c.Box) || !has('B') && len(c.Box) == 0) &&
		(has('T') && plainName(c.To) || !has('T') && len(c.To) == 0) &&
		(has('U') && c.Uid >= 1 && c.Uid <= 1000000 || !has('U') && c.Uid == 0) &&
		(has('F') && c.Flags >= 0 && c.Flags <= 31 || !has('F') && c.Flags == 0) &&
		(has('S') && c.Since >= 0 && c.Since <= 1000000 || !has('S') && c.Since == 0) &&
		(has('X') && plainText(c.Text) || !has('X') && len(c.Text) == 0)
}

func plainComes(b *impl.Box, flags int, text []byte) impl.Reply {
	b.Seq++
	b.Mails = append(b.Mails, impl.Mail{Uid: b.Next, Flags: flags, Seq: b.Seq, Text: bytes.Clone(text)})
	b.Next++
	return impl.Reply{Num: b.Next - 1}
}

func plainGoes(b *impl.Box, uid int) {
	var stay []impl.Mail
	for _, m := range b.Mails {
		if m.Uid != uid {
			stay = append(stay, m)
		}
	}
	b.Mails = stay
	b.Gones = append(b.Gones, impl.Gone{Uid: uid, Seq: b.Seq})
	if len(b.Gones) > 40 {
		b.Lost = b.Gones[0].Seq
		b.Gones = slices.Clone(b.Gones[1:])
	}
}

func code(n int) impl.Reply { return impl.Reply{Code: n} }

func num(n int) impl.Reply { return impl.Reply{Num: n} }

// plainDo wants an account and a command that are as they should be.
func plainDo(old impl.Account, c impl.Cmd) (impl.Account, impl.Reply) {
	a := cloned(old)
	b := boxOf(&a, string(c.Box))
	switch {
	case c.Kind == impl.CmCreate:
		return plainCreate(a, c)
	case c.Kind == impl.CmList:
		var r impl.Reply
		for _, x := range a.Boxes {
			r.Names = append(r.Names, x.Name)
		}
		return a, r
	case b == nil:
		return a, code(impl.RpNone)
	case c.Kind == impl.CmDelete:
		var stay []impl.Box
		for _, x := range a.Boxes {
			if x.Valid != b.Valid {
				stay = append(stay, x)
			}
		}
		a.Boxes = stay
		return a, num(0)
	}
	return a, plainInBox(&a, b, c)
}

func plainCreate(a impl.Account, c impl.Cmd) (impl.Account, impl.Reply) {
	if boxOf(&a, string(c.Box)) != nil {
		return a, code(impl.RpExists)
	}
	if len(a.Boxes) == 4 || a.Valid == 1000000 {
		return a, code(impl.RpFull)
	}
	a.Valid++
	at := 0
	for at < len(a.Boxes) && string(a.Boxes[at].Name) < string(c.Box) {
		at++
	}
	a.Boxes = slices.Insert(a.Boxes, at, impl.Box{Name: c.Box, Valid: a.Valid, Next: 1})
	return a, num(a.Valid)
}

func plainInBox(a *impl.Account, b *impl.Box, c impl.Cmd) impl.Reply {
	told := impl.Box{Name: b.Name, Valid: b.Valid, Next: b.Next, Seq: b.Seq, Lost: b.Lost}
	m := mailOf(b, c.Uid)
	switch c.Kind {
	case impl.CmAppend:
		if b.Seq == 1000000 || b.Next == 1000000 || len(b.Mails) == 12 {
			return code(impl.RpFull)
		}
		return plainComes(b, c.Flags, c.Text)
	case impl.CmStore:
		return plainStore(b, m, c)
	case impl.CmExpunge:
		return plainExpunge(b)
	case impl.CmFetch:
		if m == nil {
			return code(impl.RpNone)
		}
		told.Mails = []impl.Mail{*m}
		return impl.Reply{Num: m.Uid, Box: told}
	case impl.CmCopy:
		return plainCopy(b, m, boxOf(a, string(c.To)), c)
	case impl.CmStatus:
		return impl.Reply{Num: len(b.Mails), Box: told}
	}
	if c.Since < b.Lost {
		return impl.Reply{Code: impl.RpStale, Num: b.Lost}
	}
	for _, m := range b.Mails {
		if m.Seq > c.Since {
			told.Mails = append(told.Mails, m)
		}
	}
	for _, g := range b.Gones {
		if g.Seq > c.Since {
			told.Gones = append(told.Gones, g)
		}
	}
	return impl.Reply{Box: told}
}

func plainStore(b *impl.Box, m *impl.Mail, c impl.Cmd) impl.Reply {
	if m == nil {
		return code(impl.RpNone)
	}
	if c.Since > 0 && m.Seq > c.Since {
		return impl.Reply{Code: impl.RpStale, Num: m.Seq}
	}
	flags := 0
	for bit := 1; bit <= 16; bit *= 2 {
		had, given := m.Flags/bit%2 == 1, c.Flags/bit%2 == 1
		if c.Mode == 0 && given || c.Mode == 1 && (had || given) || c.Mode == 2 && had && !given {
			flags += bit
		}
	}
	if flags == m.Flags {
		return num(m.Seq)
	}
	if b.Seq == 1000000 {
		return code(impl.RpFull)
	}
	b.Seq++
	m.Flags, m.Seq = flags, b.Seq
	return num(m.Seq)
}

func plainExpunge(b *impl.Box) impl.Reply {
	var uids []int
	for _, m := range b.Mails {
		if m.Flags/8%2 == 1 {
			uids = append(uids, m.Uid)
		}
	}
	if len(uids) == 0 {
		return num(0)
	}
	if b.Seq == 1000000 {
		return code(impl.RpFull)
	}
	b.Seq++
	for _, uid := range uids {
		plainGoes(b, uid)
	}
	return num(len(uids))
}

func plainCopy(b *impl.Box, m *impl.Mail, to *impl.Box, c impl.Cmd) impl.Reply {
	if m == nil || to == nil {
		return code(impl.RpNone)
	}
	if to.Seq == 1000000 || to.Next == 1000000 {
		return code(impl.RpFull)
	}
	if len(to.Mails) == 12 && (c.Mode == 0 || to.Valid != b.Valid) {
		return code(impl.RpFull)
	}
	if c.Mode == 1 && b.Seq >= 999999 {
		return code(impl.RpFull)
	}
	flags, text := m.Flags, m.Text
	if c.Mode == 1 {
		b.Seq++
		plainGoes(b, c.Uid)
	}
	return plainComes(to, flags, text)
}
