package tests

import (
	"fmt"
	"maps"
	"regexp"
	"slices"
	"strconv"
	"strings"
	"testing"

	"loop.example/g00340/impl"
)

// town is an ordinary mail store. Names that begin like others stand in it, so
// that a look at the beginning of a key alone goes wrong.
func town() []impl.Pair {
	return pairsOf(
		"f/an/inbox", "5 1",
		"f/ann/in", "4 7",
		"f/ann/inbox", "1 5",
		"f/ann/work", "3 2",
		"f/bob/inbox", "2 3",
		"m/ann/in/006", "3in",
		"m/ann/inbox/001", "1one",
		"m/ann/inbox/003", "2three",
		"m/ann/inbox/004", "0",
		"m/ann/work/001", "0work",
		"m/bob/inbox/002", "22 of bob",
		"u/an", "apple",
		"u/ann", "apple",
		"u/bob", "berry",
		"v", "7",
	)
}

// mailWith gives the pairs with these keys and values put in their places.
func mailWith(list []impl.Pair, texts ...string) []impl.Pair {
	all := boxOf(list)
	for _, p := range pairsOf(texts...) {
		all[p.Key] = p.Value
	}
	return all.pairs()
}

// mailLess gives the pairs without these keys, which must be there.
func mailLess(list []impl.Pair, keys ...string) []impl.Pair {
	all := boxOf(list)
	for _, key := range keys {
		if _, there := all[key]; !there {
			panic(key + " is not there")
		}
		delete(all, key)
	}
	return all.pairs()
}

// fullTown gives a mail store of n pairs, by folders of bob's.
func fullTown(n int) []impl.Pair {
	list := mailWith(town(), "v", "9000")
	for i := 0; len(list) < n; i++ {
		list = mailWith(list, fmt.Sprintf("f/bob/x%02d", i), fmt.Sprint(100+i, 1))
	}
	return list
}

// box is a mail store by its keys.
type box map[string]string

func boxOf(list []impl.Pair) box {
	b := box{}
	for _, p := range list {
		b[p.Key] = p.Value
	}
	return b
}

func (b box) pairs() []impl.Pair {
	var list []impl.Pair
	for _, key := range slices.Sorted(maps.Keys(b)) {
		list = append(list, impl.Pair{Key: key, Value: b[key]})
	}
	return list
}

func (b box) has(key string) bool {
	_, there := b[key]
	return there
}

func (b box) under(prefix string) []string {
	return slices.DeleteFunc(slices.Sorted(maps.Keys(b)), func(key string) bool { return !strings.HasPrefix(key, prefix) })
}

const aName = `([A-Za-z_][A-Za-z_0-9]{0,7})`

var (
	nextForm   = regexp.MustCompile(`\A(10000|[1-9][0-9]{0,3})\z`)
	userForm   = regexp.MustCompile(`\Au/` + aName + `\z`)
	folderForm = regexp.MustCompile(`\Af/` + aName + `/` + aName + `\z`)
	mailForm   = regexp.MustCompile(`\Am/` + aName + `/` + aName + `/([0-9]{3})\z`)
	placeForm  = regexp.MustCompile(`\A([1-9][0-9]{0,3}) ([1-9][0-9]{0,2})\z`)
)

func whole(text string) int {
	n, _ := strconv.Atoi(text)
	return n
}

func (b box) folderRight(names []string, value string) bool {
	m := placeForm.FindStringSubmatch(value)
	return m != nil && b.has("u/"+names[1]) && whole(m[1]) < whole(b["v"])
}

func (b box) mailRight(names []string, value string) bool {
	m := placeForm.FindStringSubmatch(b["f/"+names[1]+"/"+names[2]])
	uid := whole(names[3])
	return m != nil && uid > 0 && uid < whole(m[2]) && value != "" && strings.Contains("0123", value[:1]) && len(value) <= 86
}

func (b box) userRight(names []string, value string) bool {
	return shortWord.MatchString(value) && b.has("f/"+names[1]+"/inbox") && len(b.under("m/"+names[1]+"/")) <= 6
}

// mailByHand tells whether pairs are a mail store, by the forms of keys and
// values.
func mailByHand(list []impl.Pair) bool {
	b := boxOf(list)
	if !impl.PairsOK(list) || !nextForm.MatchString(b["v"]) {
		return false
	}
	for key, value := range b {
		right := key == "v"
		if names := userForm.FindStringSubmatch(key); names != nil {
			right = b.userRight(names, value)
		} else if names := folderForm.FindStringSubmatch(key); names != nil {
			right = b.folderRight(names, value)
		} else if names := mailForm.FindStringSubmatch(key); names != nil {
			right = b.mailRight(names, value)
		}
		if !right {
			return false
		}
	}
	return true
}

// mailAsk is a call of chapter 8 with its arguments: the word of AddUser, and
// the folder that a call leads to, are other. What a call does not take is
// left out.
type mailAsk struct {
	call                      string
	user, folder, other, text string
	uid, flags                int
}

// mailTold is all that a call of chapter 8 may answer.
type mailTold struct {
	pairs     []impl.Pair
	names     []string
	uids      []int
	folder    impl.Folder
	word      string
	uid, code int
}

func mailCalls() []string {
	return []string{"AddUser", "UserPass", "ListFolders", "FolderAt", "MakeFolder", "DropFolder", "RenameFolder", "AppendMail", "SetFlags", "ExpungeFolder", "CopyMail"}
}

func (a mailAsk) String() string {
	return fmt.Sprintf("%s of %.12q, %.12q, %.12q, text of %d, uid %d, flags %d", a.call, a.user, a.folder, a.other, len(a.text), a.uid, a.flags)
}

func (a mailAsk) do(list []impl.Pair) (told mailTold) {
	switch a.call {
	case "AddUser":
		told.pairs, told.code = impl.AddUser(list, a.user, a.other)
	case "UserPass":
		told.word, told.code = impl.UserPass(list, a.user)
	case "ListFolders":
		told.names, told.code = impl.ListFolders(list, a.user)
	case "FolderAt":
		told.folder, told.code = impl.FolderAt(list, a.user, a.folder)
	case "MakeFolder":
		told.pairs, told.code = impl.MakeFolder(list, a.user, a.folder)
	case "DropFolder":
		told.pairs, told.code = impl.DropFolder(list, a.user, a.folder)
	case "RenameFolder":
		told.pairs, told.code = impl.RenameFolder(list, a.user, a.folder, a.other)
	case "AppendMail":
		told.pairs, told.uid, told.code = impl.AppendMail(list, a.user, a.folder, a.text, a.flags)
	case "SetFlags":
		told.pairs, told.code = impl.SetFlags(list, a.user, a.folder, a.uid, a.flags)
	case "ExpungeFolder":
		told.pairs, told.uids, told.code = impl.ExpungeFolder(list, a.user, a.folder)
	case "CopyMail":
		told.pairs, told.uid, told.code = impl.CopyMail(list, a.user, a.folder, a.uid, a.other)
	default:
		panic(a.call)
	}
	return told
}

// takes tells whether the call takes an argument of that sort.
func (a mailAsk) takes(sort string) bool {
	return slices.Contains(map[string][]string{
		"folder": {"FolderAt", "MakeFolder", "DropFolder", "RenameFolder", "AppendMail", "SetFlags", "ExpungeFolder", "CopyMail"},
		"other":  {"AddUser", "RenameFolder", "CopyMail"},
		"text":   {"AppendMail"},
		"uid":    {"SetFlags", "CopyMail"},
		"flags":  {"AppendMail", "SetFlags"},
	}[sort], a.call)
}

// answersPairs tells whether the call answers pairs, as they were with most
// codes.
func (a mailAsk) answersPairs() bool {
	return !slices.Contains([]string{"UserPass", "ListFolders", "FolderAt"}, a.call)
}

// needs gives the names that the call takes.
func (a mailAsk) needs() []string {
	names := []string{a.user}
	if a.takes("folder") {
		names = append(names, a.folder)
	}
	if a.takes("other") {
		names = append(names, a.other)
	}
	return names
}

// fault finds those with which nothing at all is answered.
func (a mailAsk) fault(list []impl.Pair) int {
	texts := a.needs()
	if a.takes("text") {
		texts = append(texts, a.text)
	}
	if len(list) > 4096 || slices.ContainsFunc(texts, func(text string) bool { return len(text) > 65536 }) {
		return impl.ErrLong
	}
	if !mailByHand(list) {
		return impl.ErrBad
	}
	if slices.ContainsFunc(a.needs(), func(name string) bool { return !shortWord.MatchString(name) }) {
		return impl.ErrName
	}
	if a.takes("text") && len(a.text) > 85 || a.takes("flags") && (a.flags < 0 || a.flags > 3) {
		return impl.ErrRange
	}
	return impl.OK
}

// byHand gives what the call is to answer, by changing a box key by key.
func (a mailAsk) byHand(list []impl.Pair) mailTold {
	if code := a.fault(list); code != impl.OK {
		return mailTold{code: code}
	}
	b, told := boxOf(list), mailTold{}
	code := b.lacks(a)
	if code == impl.OK {
		code = b.change(a, &told)
	}
	if code == impl.OK && len(b) > 60 {
		code = impl.ErrFull
	}
	if code != impl.OK {
		b, told = boxOf(list), mailTold{code: code}
	}
	if a.answersPairs() {
		told.pairs = b.pairs()
	}
	return told
}

// lacks finds a user or a folder that is not there, though the call needs it.
func (b box) lacks(a mailAsk) int {
	if a.call == "AddUser" {
		return impl.OK
	}
	if !b.has("u/" + a.user) {
		return impl.ErrUser
	}
	if a.takes("folder") && a.call != "MakeFolder" && !b.has("f/"+a.user+"/"+a.folder) {
		return impl.ErrFolder
	}
	if a.call == "CopyMail" && !b.has("f/"+a.user+"/"+a.other) {
		return impl.ErrFolder
	}
	return impl.OK
}

func (b box) change(a mailAsk, told *mailTold) int {
	of, mails := "f/"+a.user+"/"+a.folder, "m/"+a.user+"/"+a.folder+"/"
	uid := fmt.Sprintf("%s%03d", mails, a.uid)
	switch a.call {
	case "AddUser":
		if b.has("u/" + a.user) {
			return impl.ErrTwice
		}
		b["u/"+a.user] = a.other
		return b.fresh("f/"+a.user+"/inbox", "1")
	case "UserPass":
		told.word = b["u/"+a.user]
	case "ListFolders":
		for _, key := range b.under("f/" + a.user + "/") {
			told.names = append(told.names, strings.Split(key, "/")[2])
		}
	case "FolderAt":
		told.folder = b.folder(a.user, a.folder)
	case "MakeFolder":
		if b.has(of) {
			return impl.ErrTwice
		}
		return b.fresh(of, "1")
	case "DropFolder":
		if a.folder == "inbox" {
			return impl.ErrState
		}
		for _, key := range append(b.under(mails), of) {
			delete(b, key)
		}
	case "RenameFolder":
		return b.rename(a)
	case "AppendMail":
		return b.add(a.user, a.folder, strconv.Itoa(a.flags)+a.text, told)
	case "SetFlags":
		if !b.has(uid) {
			return impl.ErrNone
		}
		b[uid] = strconv.Itoa(a.flags) + b[uid][1:]
	case "ExpungeFolder":
		for _, key := range b.under(mails) {
			if b[key][0] >= '2' {
				told.uids = append(told.uids, whole(key[len(key)-3:]))
				delete(b, key)
			}
		}
	case "CopyMail":
		if !b.has(uid) {
			return impl.ErrNone
		}
		return b.add(a.user, a.other, b[uid], told)
	}
	return impl.OK
}

func (b box) fresh(key, next string) int {
	if b["v"] == "10000" {
		return impl.ErrMany
	}
	b[key] = b["v"] + " " + next
	b["v"] = strconv.Itoa(whole(b["v"]) + 1)
	return impl.OK
}

func (b box) rename(a mailAsk) int {
	was, is := "/"+a.user+"/"+a.folder, "/"+a.user+"/"+a.other
	if a.folder == "inbox" {
		return impl.ErrState
	}
	if b.has("f" + is) {
		return impl.ErrTwice
	}
	for _, key := range b.under("m" + was + "/") {
		b["m"+is+key[len(key)-4:]] = b[key]
		delete(b, key)
	}
	_, next, _ := strings.Cut(b["f"+was], " ")
	delete(b, "f"+was)
	return b.fresh("f"+is, next)
}

func (b box) add(user, folder, value string, told *mailTold) int {
	validity, next, _ := strings.Cut(b["f/"+user+"/"+folder], " ")
	if len(b.under("m/"+user+"/")) >= 6 {
		return impl.ErrQuota
	}
	if next == "999" {
		return impl.ErrMany
	}
	told.uid = whole(next)
	b[fmt.Sprintf("m/%s/%s/%03d", user, folder, told.uid)] = value
	b["f/"+user+"/"+folder] = fmt.Sprint(validity, " ", told.uid+1)
	return impl.OK
}

func (b box) folder(user, folder string) impl.Folder {
	validity, next, _ := strings.Cut(b["f/"+user+"/"+folder], " ")
	f := impl.Folder{Name: folder, Validity: whole(validity), Next: whole(next)}
	for _, key := range b.under("m/" + user + "/" + folder + "/") {
		f.Mails = append(f.Mails, impl.Mail{Uid: whole(key[len(key)-3:]), Flags: int(b[key][0] - '0'), Text: b[key][1:]})
	}
	return f
}

func sameFolder(a, b impl.Folder) bool {
	return a.Name == b.Name && a.Validity == b.Validity && a.Next == b.Next && slices.Equal(a.Mails, b.Mails)
}

func sameTold(a, b mailTold) bool {
	return a.code == b.code && a.uid == b.uid && a.word == b.word && slices.Equal(a.pairs, b.pairs) &&
		slices.Equal(a.names, b.names) && slices.Equal(a.uids, b.uids) && sameFolder(a.folder, b.folder)
}

// mustTell asks a call and holds it against what is wanted; a mail store that
// is answered without a code must be right.
func mustTell(t *testing.T, list []impl.Pair, a mailAsk, want mailTold) mailTold {
	t.Helper()
	got := a.do(list)
	if !sameTold(got, want) {
		t.Errorf("%s: %.900q, not %.900q", a, fmt.Sprint(got), fmt.Sprint(want))
	}
	if a.answersPairs() && got.code == impl.OK && !impl.MailStoreOK(got.pairs) {
		t.Errorf("%s: no mail store is answered: %q", a, got.pairs)
	}
	return got
}

// mustRefuse asks for a code with which the pairs are as they were.
func mustRefuse(t *testing.T, list []impl.Pair, a mailAsk, code int) {
	t.Helper()
	want := mailTold{code: code}
	if a.answersPairs() {
		want.pairs = list
	}
	mustTell(t, list, a, want)
}

// mustRefuseAll asks for a code with which nothing is answered.
func mustRefuseAll(t *testing.T, list []impl.Pair, a mailAsk, code int) {
	t.Helper()
	mustTell(t, list, a, mailTold{code: code})
}
