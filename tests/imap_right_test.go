package tests

import (
	"fmt"
	"math"
	"testing"

	"loop.example/g00340/impl"
)

// rightImaps are sessions at the bounds of what is right.
func rightImaps() map[string]impl.Imap {
	return map[string]impl.Imap{
		"nothing at all":                  {},
		"a new one":                       newcomer(),
		"User of 1 byte":                  known("a"),
		"User of 8 bytes":                 known("eight_08"),
		"User of _":                       known("_"),
		"User of great letters":           known("ABCDEFGH"),
		"User with digits":                known("a2345678"),
		"User that nobody is":             known("none"),
		"Folder of 1 byte":                inside("ann", "i"),
		"Folder of 8 bytes":               inside("ann", "eight_08"),
		"Folder of _":                     inside("ann", "_"),
		"Folder of great letters":         inside("ann", "INBOX"),
		"Folder that is not there":        inside("ann", "none"),
		"Folder of nobody":                inside("none", "inbox"),
		"Folder like User":                inside("ann", "ann"),
		"User and Folder of 8 bytes":      inside("eight_08", "EIGHT_08"),
		"User and Folder of 1 byte":       inside("a", "b"),
		"User and Folder that are there":  inside("ann", "inbox"),
		"another User and another Folder": inside("bob", "inbox"),
	}
}

// wrongImaps are sessions that are not right, each by as little as can be.
func wrongImaps() map[string]impl.Imap {
	out := map[string]impl.Imap{
		"User, not Open":               {User: "ann"},
		"User of 1 byte, not Open":     {User: "a"},
		"User and Folder, not Open":    {User: "ann", Folder: "inbox"},
		"Folder without User":          {Folder: "inbox", Open: true},
		"Folder of 1 byte alone":       {Folder: "i", Open: true},
		"Folder without User and Open": {Folder: "inbox"},
	}
	for _, name := range wrongNames() {
		if name == "" {
			continue
		}
		text := fmt.Sprintf("%.20q, %d bytes", name, len(name))
		out["User of "+text] = known(name)
		out["User with a Folder, of "+text] = inside(name, "inbox")
		out["User, not Open, of "+text] = impl.Imap{User: name}
		out["Folder of "+text] = inside("ann", name)
		out["Folder without User, of "+text] = impl.Imap{Folder: name, Open: true}
		out["Folder alone, of "+text] = impl.Imap{Folder: name}
	}
	return out
}

func TestNewImap(t *testing.T) {
	if s := impl.NewImap(); s != (impl.Imap{Open: true}) || !impl.ImapOK(s) {
		t.Errorf("%+v", s)
	}
}

func TestImapOK(t *testing.T) {
	for what, s := range rightImaps() {
		if !impl.ImapOK(s) || !imapByHand(s) {
			t.Errorf("%s: not right: %+v", what, s)
		}
	}
	for what, s := range wrongImaps() {
		if impl.ImapOK(s) || imapByHand(s) {
			t.Errorf("%s: right", what)
		}
	}
}

// Parts of a session in all ways together.
func TestImapOKTogether(t *testing.T) {
	rights, names := 0, append([]string{"a", "_", "eight_08", "ann", "inbox", "A2"}, wrongNames()...)
	for _, open := range []bool{false, true} {
		for _, user := range names {
			for _, folder := range names {
				s := impl.Imap{User: user, Folder: folder, Open: open}
				right := imapByHand(s)
				if impl.ImapOK(s) != right {
					t.Errorf("%.300q: not %t", fmt.Sprintf("%+v", s), right)
				}
				if right {
					rights++
				} else {
					mustNotHear(t, "not right", town(), s, "a noop", impl.ErrBad)
				}
			}
		}
	}
	if rights != 1+1+6*7 {
		t.Errorf("%d are right", rights)
	}
}

// A step of a session that is not right is refused with nothing, whatever the
// line is; each right one is taken.
func TestReadingAsksForRightSessions(t *testing.T) {
	lines := []string{"", " ", "a", "a ", "a noop", "a logout", "a login ann apple", "a list", "a select inbox", "a create new", "a fetch 1", "a expunge", "a what", "a what else", long(61), long(65536)}
	for what, s := range wrongImaps() {
		for _, line := range lines {
			mustNotHear(t, what, town(), s, line, impl.ErrBad)
		}
		mustNotHear(t, what, town(), s, long(65537), impl.ErrLong)
	}
	for what, s := range rightImaps() {
		for _, line := range lines {
			mustCode(t, what, mustHearDue(t, what, town(), s, line).code, impl.OK)
		}
		mustNotHear(t, what, town(), s, long(65537), impl.ErrLong)
	}
}

func TestFlagsText(t *testing.T) {
	for flags, want := range map[int]string{0: "()", impl.FlSeen: "(seen)", impl.FlDeleted: "(deleted)", impl.FlSeen | impl.FlDeleted: "(seen deleted)"} {
		if text, code := impl.FlagsText(flags); text != want || code != impl.OK {
			t.Errorf("FlagsText of %d: %q, code %d", flags, text, code)
		}
	}
	for _, flags := range []int{-1, 4, 5, 6, 7, 8, 256, 257, 1 << 32, 1<<32 + 1, -2, -3, -4, math.MinInt, math.MinInt + 1, math.MaxInt} {
		if text, code := impl.FlagsText(flags); text != "" || code != impl.ErrRange {
			t.Errorf("FlagsText of %d: %q, code %d", flags, text, code)
		}
	}
}
