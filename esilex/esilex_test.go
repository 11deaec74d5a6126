package esilex_test

import (
	"math/rand"
	"regexp"
	"slices"
	"strconv"
	"strings"
	"testing"
	"unsafe"

	"inlay/api"
	"inlay/esilex"
	"inlay/samples"
)

const (
	names     = "include inline remove comment try attempt except choose when otherwise vars"
	blanks    = " \t\n\r"
	space     = `[ \t\n\r]`
	attribute = space + `+[a-z]{1,16}=(?:"[^"]*"|'[^']*')`
)

// An answer is what Tokens makes of a text.
type answer struct {
	l     []esilex.Token
	place int
	e     api.Errno
}

func tokens(s string) (a answer) {
	a.l, a.place, a.e = esilex.Tokens(s)
	return a
}

func same(a, b esilex.Token) bool {
	return a.Kind == b.Kind && a.Name == b.Name && slices.Equal(a.Attrs, b.Attrs) && a.Text == b.Text && a.From == b.From && a.To == b.To
}

func (a answer) same(b answer) bool {
	return slices.EqualFunc(a.l, b.l, same) && a.place == b.place && a.e == b.e
}

func (a answer) told() string {
	out := "at " + strconv.Itoa(a.place) + " error " + strconv.Itoa(int(a.e)) + ", " + strconv.Itoa(len(a.l)) + " tokens:"
	for _, k := range a.l[:min(len(a.l), 12)] {
		out += "\n\t" + strconv.Itoa(k.Kind) + " " + k.Name + " " + strconv.Quote(k.Text[:min(len(k.Text), 90)]) + " from " + strconv.Itoa(k.From) + " to " + strconv.Itoa(k.To)
		for _, a := range k.Attrs[:min(len(k.Attrs), 9)] {
			out += "; " + a.Name + " " + strconv.Quote(a.Value[:min(len(a.Value), 90)]) + " at " + strconv.Itoa(a.At)
		}
	}
	return out
}

func wantAnswer(t *testing.T, s string, want answer) {
	t.Helper()
	if got := tokens(s); !got.same(want) {
		t.Errorf("Tokens(%.200q) = %s\nwant %s", s, got.told(), want.told())
	}
}

func wantFault(t *testing.T, s string, place int, e api.Errno) {
	t.Helper()
	wantAnswer(t, s, answer{nil, place, e})
}

// wantTokens holds the tokens of what l makes together against l.
func wantTokens(t *testing.T, l ...esilex.Token) {
	t.Helper()
	s, want := laid(l...)
	wantAnswer(t, s, answer{want, 0, api.OK})
}

// laid puts tokens that have their bytes one behind the other, and answers them and their text.
func laid(l ...esilex.Token) (string, []esilex.Token) {
	var s strings.Builder
	var out []esilex.Token
	for _, k := range l {
		k.From, k.To = s.Len(), s.Len()+len(k.Text)
		k.Attrs = slices.Clone(k.Attrs)
		after := 0
		for i, a := range k.Attrs {
			is := after + strings.IndexByte(k.Text[after:], '=')
			k.Attrs[i].At = k.From + is - len(a.Name)
			after = is + len(`=""`) + len(a.Value)
		}
		s.WriteString(k.Text)
		out = append(out, k)
	}
	return s.String(), out
}

func plain(s string) esilex.Token {
	return esilex.Token{Kind: esilex.Text, Text: s}
}

func raw(s string) esilex.Token {
	return esilex.Token{Kind: esilex.Raw, Text: s}
}

func hides(blank string) esilex.Token {
	return esilex.Token{Kind: esilex.HideOpen, Text: "<!--esi" + blank}
}

func shows() esilex.Token {
	return esilex.Token{Kind: esilex.HideClose, Text: "-->"}
}

// opens answers the token of a tag, whose attributes are words and values in turn; it is empty if its bytes say so.
func opens(s, name string, pairs ...string) esilex.Token {
	k := esilex.Token{Kind: esilex.Open, Name: name, Text: s}
	if strings.HasSuffix(s, "/>") {
		k.Kind = esilex.Empty
	}
	for i := 1; i < len(pairs); i += 2 {
		k.Attrs = append(k.Attrs, api.Attr{Name: pairs[i-1], Value: pairs[i]})
	}
	return k
}

func closes(s, name string) esilex.Token {
	return esilex.Token{Kind: esilex.Close, Name: name, Text: s}
}

var (
	nameThere = regexp.MustCompile(`\A</?esi:([a-z]*)`)
	wordThere = regexp.MustCompile(`\A` + space + `+([a-z]{1,16})(?:=(?:"([^"]*)|'([^']*))?["']?)?`)
	closing   = regexp.MustCompile(`\A</esi:[a-z]+` + space + `*`)
	// What is an opening tag but for its end, and all that can become one.
	begun = longest(`\A<esi:[a-z]+(?:` + attribute + `)*(?:` + space + `*/?|` + space + `+[a-z]{1,16}(?:=(?:"[^"]*|'[^']*)?)?)`)
	ready = regexp.MustCompile(`\A<esi:[a-z]+(?:` + attribute + `)*` + space + `*/?\z`)
)

func longest(expression string) *regexp.Regexp {
	r := regexp.MustCompile(expression)
	r.Longest()
	return r
}

// A defined page is one that is taken apart by the definitions.
type definedPage struct {
	s      string
	at     int
	hidden int
	answer
}

// defined: P21.1, by the definitions.
func defined(s string) answer {
	p := definedPage{s: s, hidden: -1}
	for p.at < len(s) && p.e == api.OK {
		p.step()
	}
	if p.e == api.OK && p.hidden >= 0 {
		p.fault(p.hidden, api.ErrEnd)
	}
	return p.answer
}

func (p *definedPage) fault(place int, e api.Errno) {
	p.answer = answer{nil, place, e}
}

func (p *definedPage) add(kind, size int, name string, attrs []api.Attr) {
	to := p.at + size
	p.l = append(p.l, esilex.Token{Kind: kind, Name: name, Attrs: attrs, Text: p.s[p.at:to], From: p.at, To: to})
	p.at = to
}

func (p *definedPage) step() {
	rest := p.s[p.at:]
	switch m := nameThere.FindStringSubmatch(rest); {
	case m != nil && !slices.Contains(strings.Fields(names), m[1]):
		p.fault(p.at, api.ErrTag)
	case m != nil && rest[1] == '/':
		p.closing(m[1])
	case m != nil:
		p.opening(m[1])
	case len(rest) >= 8 && rest[:7] == "<!--esi" && strings.Contains(blanks, rest[7:8]) && p.hidden >= 0:
		p.fault(p.at, api.ErrNest)
	case len(rest) >= 8 && rest[:7] == "<!--esi" && strings.Contains(blanks, rest[7:8]):
		p.hidden = p.at
		p.add(esilex.HideOpen, 8, "", nil)
	case p.hidden >= 0 && strings.HasPrefix(rest, "-->"):
		p.hidden = -1
		p.add(esilex.HideClose, 3, "", nil)
	case len(p.l) > 0 && p.l[len(p.l)-1].Kind == esilex.Text:
		last := &p.l[len(p.l)-1]
		p.at++
		last.To++
		last.Text = p.s[last.From:last.To]
	default:
		p.add(esilex.Text, 1, "", nil)
	}
}

func (p *definedPage) closing(name string) {
	size := len(closing.FindString(p.s[p.at:]))
	switch after := p.s[p.at+size:]; {
	case after == "":
		p.fault(p.at, api.ErrEnd)
	case after[0] != '>':
		p.fault(p.at, api.ErrTag)
	default:
		p.add(esilex.Close, size+1, name, nil)
	}
}

func (p *definedPage) opening(name string) {
	tag := begun.FindString(p.s[p.at:])
	attrs, twice := p.attrs(tag, len("<esi:"+name))
	after := p.s[p.at+len(tag):]
	switch {
	case twice >= 0:
		p.fault(twice, api.ErrAttr)
	case after == "":
		p.fault(p.at, api.ErrEnd)
	case after[0] != '>' || !ready.MatchString(tag):
		p.fault(p.at+len(tag), api.ErrAttr)
	case strings.HasSuffix(tag, "/"):
		p.add(esilex.Empty, len(tag)+1, name, attrs)
	default:
		p.add(esilex.Open, len(tag)+1, name, attrs)
		if name == "remove" || name == "inline" {
			p.raw(name)
		}
	}
}

// attrs answers the attributes of what is there of a tag, and where one is whose word was there before.
func (p *definedPage) attrs(tag string, after int) (out []api.Attr, twice int) {
	for {
		m := wordThere.FindStringSubmatchIndex(tag[after:])
		if m == nil {
			return out, -1
		}
		part := func(i int) string { return tag[after:][max(m[i], 0):max(m[i+1], 0)] }
		a := api.Attr{Name: part(2), Value: part(4) + part(6), At: p.at + after + m[2]}
		if slices.ContainsFunc(out, func(b api.Attr) bool { return a.Name == b.Name }) {
			return nil, a.At
		}
		out = append(out, a)
		after += m[1]
	}
}

func (p *definedPage) raw(name string) {
	from := p.l[len(p.l)-1].From
	size := strings.Index(p.s[p.at:], "</esi:"+name)
	if size < 0 {
		p.fault(from, api.ErrEnd)
		return
	}
	if inner := strings.Index(p.s[p.at:p.at+size], "<esi:"); inner >= 0 && name == "remove" {
		p.fault(p.at+inner, api.ErrNest)
		return
	}
	p.add(esilex.Raw, size, "", nil)
}

// wantDefined: P21.1 to P21.3 of a text, whatever it is.
func wantDefined(t *testing.T, s string) {
	t.Helper()
	want := defined(s)
	wantAnswer(t, s, want)
	if want.e == api.OK {
		wantWhole(t, s)
		wantAgain(t, s)
	}
}

// wantWhole: P21.2.
func wantWhole(t *testing.T, s string) {
	t.Helper()
	l, joined, before := tokens(s).l, "", esilex.Token{}
	for _, k := range append(l, esilex.Token{From: len(s), To: len(s)}) {
		hasRaw := before.Kind == esilex.Open && (before.Name == "remove" || before.Name == "inline")
		if k.From != len(joined) || k.To != k.From+len(k.Text) || hasRaw != (k.Kind == esilex.Raw) || before.Kind == esilex.Text && k.Kind == esilex.Text || before.Kind == esilex.Raw && k.Kind != esilex.Close {
			t.Errorf("Tokens(%.200q): %s, where one of kind %d from %d to %d can't follow one of kind %d", s, answer{l: l}.told(), k.Kind, k.From, k.To, before.Kind)
			return
		}
		joined += k.Text
		before = k
	}
	if joined != s {
		t.Errorf("Tokens(%.200q) are %.200q", s, joined)
	}
}

// wantAgain: P21.3.
func wantAgain(t *testing.T, s string) {
	t.Helper()
	first := tokens(s)
	again := tokens(inOneForm(first.l))
	if again.e != api.OK || !slices.EqualFunc(meant(first.l), meant(again.l), same) {
		t.Errorf("Tokens(%.200q) are, in one form, %s", s, again.told())
	}
}

// inOneForm writes tokens, each tag in one form.
func inOneForm(l []esilex.Token) string {
	out := ""
	for _, k := range l {
		switch k.Kind {
		case esilex.Open, esilex.Empty:
			out += "<esi:" + k.Name
			for _, a := range k.Attrs {
				mark := `"`
				if strings.Contains(a.Value, mark) {
					mark = "'"
				}
				out += " " + a.Name + "=" + mark + a.Value + mark
			}
			if k.Kind == esilex.Empty {
				out += "/"
			}
			out += ">"
		case esilex.Close:
			out += "</esi:" + k.Name + ">"
		default:
			out += k.Text
		}
	}
	return out
}

// meant answers tokens without what depends on how they were written.
func meant(l []esilex.Token) []esilex.Token {
	var out []esilex.Token
	for _, k := range l {
		k.From, k.To = 0, 0
		if k.Kind != esilex.Text && k.Kind != esilex.Raw {
			k.Text = ""
		}
		k.Attrs = slices.Clone(k.Attrs)
		for i := range k.Attrs {
			k.Attrs[i].At = 0
		}
		out = append(out, k)
	}
	return out
}

func TestKinds(t *testing.T) {
	got := []int{esilex.Text, esilex.Open, esilex.Empty, esilex.Close, esilex.HideOpen, esilex.HideClose, esilex.Raw}
	if !slices.Equal(got, []int{1, 2, 3, 4, 5, 6, 7}) {
		t.Errorf("the kinds are %v", got)
	}
}

// TestExamples: P21.1, the chapter's examples.
func TestExamples(t *testing.T) {
	wantTokens(t, plain("a"), opens(`<esi:include src="/b" />`, "include", "src", "/b"), plain("c"))
	wantTokens(t, opens("<esi:remove>", "remove"), raw("<p>"), closes("</esi:remove >", "remove"))
	wantTokens(t, hides(" "), plain("x"), shows(), plain("-->"))
	wantTokens(t, plain("<esi, <!--esix, </p>"))
	wantFault(t, "<esi:includes/>", 0, api.ErrTag)
	wantFault(t, "x<esi:", 1, api.ErrTag)
	wantFault(t, "</esi:Try>", 0, api.ErrTag)
	wantFault(t, "<esi:try a=b>", 11, api.ErrAttr)
	wantFault(t, `<esi:when test="a"test="b">`, 18, api.ErrAttr)
	wantFault(t, `<esi:when test="a" test="b">`, 19, api.ErrAttr)
	wantFault(t, "x<esi:try", 1, api.ErrEnd)
	wantFault(t, "<!--esi a", 0, api.ErrEnd)
	wantFault(t, `<esi:inline name="/x">`, 0, api.ErrEnd)
	wantFault(t, "<!--esi <!--esi -->", 8, api.ErrNest)
	wantFault(t, "<esi:remove><esi:vars></esi:remove>", 12, api.ErrNest)
}

// TestText: P21.1, what is no other token is text, as much as possible of it in one.
func TestText(t *testing.T) {
	wantTokens(t)
	for _, s := range []string{
		"a", " ", "\x00", "\xff", "<", "<<", ">", "-->", "--", "<!-->", "<!--", "<!--es", "<!--esi", "<!--esi-->", "<!--esix", "<!--esi\x00", "<!--esi\v", "<!--esi\f", "<!--esi\xa0", "<!--esi\xc2\xa0", "<!--ESI ", "<!-- esi ", "<!-esi ", "!--esi ",
		"<e", "<es", "<esi", "<esi ", "<esi>", "<esi;", "<ESI:include/>", "<Esi:x", "< esi:x", "<esi :x", "<esix:x", "<xesi:x", "esi:include/>", "</", "</e", "</esi", "</esi>", "</ esi:x", "</esi :x", "</ESI:try>", "< /esi:try>", "<//esi:try>", "<esi/:try>",
		"<p>\r\n</p>", "<!DOCTYPE html>\n", "&lt;esi:x", "<?esi:x?>", "<\xc3\xa9si:x", strings.Repeat("<", 99), strings.Repeat("<esi", 99),
	} {
		wantTokens(t, plain(s))
		wantTokens(t, plain("x"+s+"x"))
		wantTokens(t, closes("</esi:try>", "try"), plain(s), opens("<esi:try>", "try"))
		wantTokens(t, opens("<esi:inline/>", "inline"), plain(s+"x"), closes("</esi:inline>", "inline"), plain("x"+s), opens("<esi:vars />", "vars"), hides("\t"), plain("x"), shows(), plain(s))
	}
	for _, s := range []string{"<", "<<", "</", "<esi", "</esi", "<!--esi", "<!--", "-", "--", "<!", "x"} {
		wantTokens(t, plain(s), opens("<esi:try>", "try"), plain(s), closes("</esi:try>", "try"), plain(s), opens("<esi:try/>", "try"), plain(s), hides("\n"), plain(s), shows())
	}
	samples.EachByte(func(c byte, s string) {
		wantTokens(t, plain(s))
		wantTokens(t, opens("<esi:vars>", "vars"), plain(s), closes("</esi:vars>", "vars"))
		wantTokens(t, hides(" "), plain(s), shows())
		if !strings.Contains(blanks, s) {
			wantTokens(t, plain("<!--esi"+s))
		}
		if s != ":" {
			wantTokens(t, plain("<esi"+s+"try/>"))
			wantTokens(t, plain("</esi"+s+"try>"))
		}
	})
}

// TestNames: P21.1, which names an element has, in each kind of tag.
func TestNames(t *testing.T) {
	for _, name := range strings.Fields(names) {
		wantTokens(t, opens("<esi:"+name+"/>", name), plain("x"))
		wantTokens(t, closes("</esi:"+name+">", name), plain("x"))
		wantTokens(t, opens("<esi:"+name+" a='b'/>", name, "a", "b"), closes("</esi:"+name+" >", name))
		if name == "remove" || name == "inline" {
			wantTokens(t, opens("<esi:"+name+">", name), raw(""), closes("</esi:"+name+">", name))
			wantTokens(t, opens("<esi:"+name+"\na=''>", name, "a", ""), raw("<p>"), closes("</esi:"+name+"\r>", name), plain("x"))
		} else {
			wantTokens(t, opens("<esi:"+name+">", name), plain("x"), closes("</esi:"+name+">", name))
			wantTokens(t, opens("<esi:"+name+"\ra=''>", name, "a", ""))
		}
		for _, other := range []string{name[1:], name[:len(name)-1], "x" + name, name + "x", name + name, strings.ToUpper(name), strings.ToUpper(name[:1]) + name[1:], " " + name, "/" + name, ":" + name, "\xff" + name, name[:2] + "-" + name[2:]} {
			for _, end := range []string{"", ">", "/>", " />", " a='b'>", "!", "\x00"} {
				wantFault(t, "ab<esi:"+other+end, 2, api.ErrTag)
				wantFault(t, "</esi:"+other+end, 0, api.ErrTag)
			}
		}
	}
	for _, other := range []string{"", "esi", "a", "script", "assign", "function", "foreach", "debug", "text", "if", "hidden", "page", strings.Repeat("a", 1<<16), "try" + strings.Repeat("y", 1<<16)} {
		wantFault(t, "<esi:"+other, 0, api.ErrTag)
		wantFault(t, "<esi:try/></esi:"+other+">", 10, api.ErrTag)
	}
}

// TestBehindNames: P21.1, what ends a name in a tag; a name is there, so what follows it is no longer its fault.
func TestBehindNames(t *testing.T) {
	samples.EachByte(func(c byte, s string) {
		switch {
		case 'a' <= c && c <= 'z':
			wantFault(t, "x<esi:try"+s+">", 1, api.ErrTag)
			wantFault(t, "x</esi:try"+s+">", 1, api.ErrTag)
		case c == '>':
			wantTokens(t, plain("x"), opens("<esi:try>", "try"), plain(">"))
			wantTokens(t, plain("x"), closes("</esi:try>", "try"), plain(">"))
		case strings.Contains(blanks, s):
			wantTokens(t, plain("x"), opens("<esi:try"+s+">", "try"))
			wantTokens(t, plain("x"), opens("<esi:try"+s+s+"/>", "try"))
			wantTokens(t, plain("x"), closes("</esi:try"+s+s+">", "try"))
			wantTokens(t, plain("x"), opens("<esi:try"+s+"a=''"+s+">", "try", "a", ""))
		case c == '/':
			wantTokens(t, plain("x"), opens("<esi:try/>", "try"))
			wantFault(t, "x<esi:try//>", 10, api.ErrAttr)
			wantFault(t, "x</esi:try/>", 1, api.ErrTag)
		default:
			wantFault(t, "x<esi:try"+s+">", 9, api.ErrAttr)
			wantFault(t, "x</esi:try"+s+">", 1, api.ErrTag)
			wantFault(t, "x<esi:try "+s+">", 10, api.ErrAttr)
			wantFault(t, "x</esi:try "+s+">", 1, api.ErrTag)
			wantFault(t, "x<esi:try a=''"+s+">", 14, api.ErrAttr)
			wantFault(t, "x<esi:try a='' "+s+">", 15, api.ErrAttr)
		}
		if c != '>' {
			wantFault(t, "x<esi:try/"+s+">", 10, api.ErrAttr)
			wantFault(t, "x<esi:try a='' /"+s, 16, api.ErrAttr)
		}
	})
}

// TestAttributes: P21.1, what an attribute is made of, and what stands between them.
func TestAttributes(t *testing.T) {
	wantTokens(t, opens(`<esi:try a="">`, "try", "a", ""))
	wantTokens(t, opens(`<esi:try a='' b="">`, "try", "a", "", "b", ""))
	wantTokens(t, opens("<esi:try \t\r\n a='1'\n\n\tb=\"2\"\r\tc='3'  \t/>", "try", "a", "1", "b", "2", "c", "3"))
	wantTokens(t, plain("xyz"), opens(`<esi:include onerror="continue" alt='/a' src="/b"/>`, "include", "onerror", "continue", "alt", "/a", "src", "/b"))
	wantTokens(t, opens(`<esi:try try='try' e="e" es='es' esi='esi'>`, "try", "try", "try", "e", "e", "es", "es", "esi", "esi"))
	wantTokens(t, opens(`<esi:try ab="1" a="2" b="3" abc="4" ba="5">`, "try", "ab", "1", "a", "2", "b", "3", "abc", "4", "ba", "5"))
	for s, place := range map[string]int{
		`<esi:try a>`: 10, `<esi:try a/>`: 10, `<esi:try a =''>`: 10, "<esi:try a\n=''>": 10, `<esi:try a= ''>`: 11, `<esi:try a=>`: 11, `<esi:try a=/>`: 11, `<esi:try a==''>`: 11, `<esi:try =''>`: 9, `<esi:try ''>`: 9, `<esi:try='a'>`: 8, `<esi:try"a">`: 8,
		`<esi:try A=''>`: 9, `<esi:try aB=''>`: 10, `<esi:try a1=''>`: 10, `<esi:try 1=''>`: 9, `<esi:try a-b=''>`: 10, `<esi:try a:b=''>`: 10, `<esi:try a_b=''>`: 10, "<esi:try a\x00=''>": 10, "<esi:try \xff=''>": 9, "<esi:try \xc3\xa9=''>": 9, `<esi:try a=b>`: 11, `<esi:try a=1>`: 11, "<esi:try a=`b`>": 11, `<esi:try a=\"b\">`: 11,
		`<esi:try a='b'c='d'>`: 14, `<esi:try a='b'"c">`: 14, `<esi:try a='b''>`: 14, `<esi:try a="b"">`: 14, `<esi:try a="b'c"'>`: 16, `<esi:try a='b',c='d'>`: 14, `<esi:try a='b'=>`: 14, `<esi:try a='b' =>`: 15, `<esi:try a='b' c>`: 16, `<esi:try a='b' c =''>`: 16, `<esi:try a='b'<>`: 14,
		`<esi:try / >`: 10, `<esi:try /a=''>`: 10, `<esi:try a='' / >`: 15, `<esi:try/ a=''>`: 9, `<esi:try <esi:try>>`: 9, `<esi:try<esi:try>>`: 8, "<esi:try\v>": 8, "<esi:try\f>": 8, "<esi:try \v>": 9, "<esi:try\xa0>": 8, "<esi:try\xc2\xa0a=''>": 8, "<esi:try\x00>": 8, `<esi:try-a>`: 8, `<esi:try1>`: 8, `<esi:tryX>`: 8, `<esi:try:x>`: 8,
	} {
		wantFault(t, s, place, api.ErrAttr)
		wantFault(t, "<!--esi "+s+"-->", place+8, api.ErrAttr)
		wantFault(t, s[:place+1], place, api.ErrAttr)
		// What can continue it, or is yet to come.
		wantFault(t, s[:place], 0, api.ErrEnd)
	}
}

// TestWords: P21.1, how long a word may be; the first letter that is one too many is told.
func TestWords(t *testing.T) {
	letters := "zabcdefghijklmnopqrstuvwxy"
	for n := 1; n <= len(letters); n++ {
		word := letters[:n]
		s := "<esi:vars " + word + "='" + word + "'>"
		if n <= 16 {
			wantTokens(t, opens(s, "vars", word, word))
			wantFault(t, s[:10+n], 0, api.ErrEnd)
			wantFault(t, s[:9]+s, 9, api.ErrAttr)
			continue
		}
		wantFault(t, s, 26, api.ErrAttr)
		wantFault(t, s[:27], 26, api.ErrAttr)
		wantFault(t, "<esi:vars a='' "+word, 31, api.ErrAttr)
	}
	wantFault(t, "<esi:vars "+strings.Repeat("a", 1<<16), 26, api.ErrAttr)
	samples.EachByte(func(c byte, s string) {
		tag := "<esi:vars " + s + "='x'>"
		if 'a' <= c && c <= 'z' {
			wantTokens(t, opens(tag, "vars", s, "x"))
			wantTokens(t, opens("<esi:vars m"+s+"q='x'>", "vars", "m"+s+"q", "x"))
		} else if !strings.Contains(blanks+"/>", s) {
			wantFault(t, tag, 10, api.ErrAttr)
		}
	})
}

// TestTwice: P21.1, a word that was there before is told ahead of all that comes after it.
func TestTwice(t *testing.T) {
	for _, after := range []string{`="b">`, `='a'/>`, `="b"`, `="b`, `=`, `=b`, ` `, `!`, `>`, `/>`, ` ="b">`, `A=""`, `1`, ``, "\x00", `="b" c="" c="">`} {
		wantFault(t, `<esi:when test="a" test`+after, 19, api.ErrAttr)
		wantFault(t, `<!--esi <esi:when x='' test="a" y='y'  test`+after, 39, api.ErrAttr)
		wantFault(t, `<esi:when test="a" b="" c='' test`+after, 29, api.ErrAttr)
	}
	// A word is one of all its letters, up to sixteen.
	wantTokens(t, opens(`<esi:when test="a" tes="b" testa="c" t="d" est="e">`, "when", "test", "a", "tes", "b", "testa", "c", "t", "d", "est", "e"))
	wantFault(t, `<esi:when test="a" tes`, 0, api.ErrEnd)
	wantFault(t, `<esi:when test="a" tes!`, 22, api.ErrAttr)
	wantFault(t, `<esi:when test="a" testa!`, 24, api.ErrAttr)
	wantFault(t, `<esi:when aaaaaaaaaaaaaaaa="" aaaaaaaaaaaaaaaaa="">`, 30, api.ErrAttr)
	wantFault(t, `<esi:when aaaaaaaaaaaaaaaa="" aaaaaaaaaaaaaaaba="">`, 46, api.ErrAttr)
	// What comes before it is told ahead of it.
	wantFault(t, `<esi:when test="a" b test="b">`, 20, api.ErrAttr)
	wantFault(t, `<esi:when test="a"test="b" test="c">`, 18, api.ErrAttr)
	wantFault(t, `<esi:when test="a" b="" b="" test="c">`, 24, api.ErrAttr)
	wantFault(t, `<esi:when test="a" TEST="b">`, 19, api.ErrAttr)
	// A value is no word, and another tag's words are its own.
	wantTokens(t, opens(`<esi:when test=" test='a' " a="test">`, "when", "test", " test='a' ", "a", "test"), opens(`<esi:when test="">`, "when", "test", ""))
	wantTokens(t, opens("<esi:when when=''>", "when", "when", ""))
}

// TestValues: P21.1, a value has any bytes but its own mark.
func TestValues(t *testing.T) {
	for _, value := range []string{
		"", " ", ">", "/>", "=", "<", "a=b c=d", "<esi:try>", "</esi:try>", "<esi:", "<!--esi ", "-->", "</esi:remove>", "\r\n", "\x00", "\xff\x80", "\\", "&quot;", "$(HTTP_COOKIE{a}|b)", "\xc3\xa9", strings.Repeat("x", 1<<16), strings.Repeat("-->", 999),
	} {
		for _, c := range [][2]string{{`"`, value}, {`'`, value}, {`"`, value + "'"}, {`'`, `"` + value}, {`"`, "'" + value + "''"}, {`'`, `""` + value + `"`}} {
			tag := "<esi:vars a=" + c[0] + c[1] + c[0] + " b=" + c[0] + c[1] + c[0]
			wantTokens(t, hides(" "), opens(tag+">", "vars", "a", c[1], "b", c[1]), plain("x"), shows())
			wantTokens(t, plain("x"), opens(tag+"\n/>", "vars", "a", c[1], "b", c[1]), plain("-->"))
			wantTokens(t, plain("x"), opens(strings.Replace(tag, "vars", "remove", 1)+">", "remove", "a", c[1], "b", c[1]), raw("x"), closes("</esi:remove>", "remove"))
			wantFault(t, "x"+tag[:len(tag)-1], 1, api.ErrEnd)
			wantFault(t, "x"+tag, 1, api.ErrEnd)
			wantFault(t, "x"+tag+" ", 1, api.ErrEnd)
			wantFault(t, "x"+tag+"/", 1, api.ErrEnd)
		}
	}
	samples.EachByte(func(c byte, s string) {
		for _, mark := range []string{`"`, `'`} {
			if s != mark {
				wantTokens(t, opens("<esi:try a="+mark+s+mark+"/>", "try", "a", s), plain(s+"x"))
			}
		}
		if s != `"` && s != `'` {
			wantFault(t, "<esi:try a="+s+"b"+s+">", 11, api.ErrAttr)
		}
	})
}

// TestEnds: P21.1, where a page ends within something, and what that is.
func TestEnds(t *testing.T) {
	for _, tag := range []string{"<esi:try  a='b'\tc=\"d\" />", "<esi:inline name='x' >", "<esi:remove>", "</esi:remove \n>", "</esi:vars>"} {
		for i := range len(tag) {
			e := api.ErrEnd
			switch {
			case i <= strings.IndexByte(tag, ':'):
				wantTokens(t, plain("abc"+tag[:i]))
				continue
			case i < len(nameThere.FindString(tag)):
				e = api.ErrTag
			}
			wantFault(t, "abc"+tag[:i], 3, e)
			// The part that hides it has no end either, but the tag is met first.
			wantFault(t, "<!--esi "+tag[:i], 8, e)
			wantFault(t, "<esi:try>\n"+tag[:i], 10, e)
		}
	}
	wantFault(t, "<!--esi ", 0, api.ErrEnd)
	wantFault(t, "ab<!--esi\tc<esi:try/>", 2, api.ErrEnd)
	wantFault(t, "<!--esi -->ab<!--esi --", 13, api.ErrEnd)
	wantFault(t, "<!--esi <esi:try a='-->'>", 0, api.ErrEnd)
	wantFault(t, "<!--esi <esi:remove>--></esi:remove>", 0, api.ErrEnd)
	wantFault(t, "<!--esi <esi:inline>--></esi:inline>- ->", 0, api.ErrEnd)
}

// TestRaw: P21.1, the bytes between the tags of a remove or an inline.
func TestRaw(t *testing.T) {
	for _, name := range []string{"remove", "inline"} {
		open, end := opens("<esi:"+name+">", name), "</esi:"+name
		other := map[string]string{"remove": "inline", "inline": "remove"}[name]
		for _, s := range []string{
			"", " ", "x", ">", "<", "-->", "--", "<!--esi ", "<!--esi <!--esi ", "<!--esi -->", "</esi:vars>", "</esi:" + other, "</esi:" + other + ">", "</esi:", "</esi:x", "</esi:" + name[:5], "</ESI:" + name + ">", "</esi: " + name + ">", "</" + name + ">", "<" + end[:5], "<esi", "<ESI:try>", "\x00\xff", "\r\n",
			strings.Repeat("<p>", 9999),
		} {
			for _, blank := range []string{"", " ", blanks} {
				wantTokens(t, open, raw(s), closes(end+blank+">", name))
				wantTokens(t, plain("x"), opens("<esi:"+name+blank+" a='</esi:"+name+">'>", name, "a", "</esi:"+name+">"), raw(s), closes(end+blank+">", name), plain("x"))
			}
			wantTokens(t, hides("\r"), open, raw(s), closes(end+">", name), shows(), plain("-->"), open, raw(s), closes(end+">", name))
			// The first end that there is ends it, whatever follows.
			wantTokens(t, open, raw(s), closes(end+">", name), closes(end+">", name))
			wantFault(t, "xy<esi:"+name+">"+s, 2, api.ErrEnd)
			wantFault(t, "xy<esi:"+name+">"+s+end[:len(end)-1], 2, api.ErrEnd)
			wantFault(t, "<!--esi <esi:"+name+" a=''>"+s, 8, api.ErrEnd)
			at := len("<esi:>"+name) + len(s)
			for _, after := range []string{"x>", "s", "!", " x>", "/>", " />", "\x00>", "X>", " <"} {
				wantFault(t, "<esi:"+name+">"+s+end+after+end+">", at, api.ErrTag)
			}
			for _, after := range []string{"", " ", blanks} {
				wantFault(t, "<esi:"+name+">"+s+end+after, at, api.ErrEnd)
			}
		}
		// An empty tag has none, and no other element has.
		wantTokens(t, opens("<esi:"+name+"/>", name), plain("x"))
		wantTokens(t, opens("<esi:"+name+" a='b' />", name, "a", "b"), opens("<esi:try>", "try"), closes(end+">", name))
		wantTokens(t, opens("<esi:comment>", "comment"), opens("<esi:include>", "include"), open, raw("a"), closes(end+">", name), closes("</esi:comment>", "comment"))
	}
}

// TestRawNest: P21.1, a remove hides no tag of ESI that opens; an inline hides any.
func TestRawNest(t *testing.T) {
	for _, s := range []string{"<esi:", "<esi:vars>", "<esi:remove>", "<esi:x", "<esi:!", "<esi:inline/>", "<esi:try a='"} {
		wantFault(t, "<esi:remove>"+s+"</esi:remove>", 12, api.ErrNest)
		wantFault(t, "x<esi:remove>yz<!--esi "+s+s+"</esi:remove", 23, api.ErrNest)
		wantFault(t, "<esi:remove></esi:try>"+s+"</esi:removed>", 22, api.ErrNest)
		// If it has no end either, that is told.
		wantFault(t, "x<esi:remove>"+s, 1, api.ErrEnd)
		wantFault(t, "x<esi:remove>"+s+"</esi:remov>", 1, api.ErrEnd)
		wantTokens(t, opens("<esi:inline>", "inline"), raw("x"+s+s), closes("</esi:inline>", "inline"))
		wantTokens(t, opens("<esi:remove>", "remove"), raw(strings.ReplaceAll(s, "<esi:", "<esi")), closes("</esi:remove>", "remove"))
	}
	// What comes after the end is not in it.
	wantTokens(t, opens("<esi:remove>", "remove"), raw(""), closes("</esi:remove>", "remove"), opens("<esi:vars>", "vars"), closes("</esi:remove>", "remove"))
	wantFault(t, "<esi:remove></esi:remove><esi:vars></esi:remove><esi:x>", 48, api.ErrTag)
	wantFault(t, "<esi:remove></esi:remove><esi:remove>a<esi:</esi:remove>", 38, api.ErrNest)
}

// TestHidden: P21.1, what opens a hidden part, and what closes it.
func TestHidden(t *testing.T) {
	for _, blank := range []string{" ", "\t", "\n", "\r"} {
		wantTokens(t, hides(blank), shows())
		wantTokens(t, plain("a"), hides(blank), plain("b"), shows(), plain("c"))
		wantTokens(t, hides(blank), plain(blank), shows(), hides(blank), shows(), plain("-->"), hides(blank), shows())
		wantTokens(t, hides(blank), plain("-"), shows(), plain("->"))
		wantTokens(t, hides(blank), plain("--- -- > ->"), shows(), plain(">"))
		wantTokens(t, hides(blank), plain("<!"), shows(), plain("<!--x-->"))
		wantTokens(t, hides(blank), plain("<!--esi"), shows(), plain("<!--esi-->"))
		wantTokens(t, hides(blank), plain("<!--esix"), shows(), closes("</esi:try>", "try"))
		wantTokens(t, hides(blank), opens("<esi:try>", "try"), shows(), closes("</esi:try>", "try"), plain("-->"))
		wantTokens(t, opens("<esi:try>", "try"), hides(blank), closes("</esi:try>", "try"), shows())
		wantTokens(t, hides(blank), opens("<esi:try a='-->'/>", "try", "a", "-->"), shows(), plain("x"))
		wantTokens(t, hides(blank), opens("<esi:remove a='<!--esi '>", "remove", "a", "<!--esi "), raw("--><!--esi "), closes("</esi:remove>", "remove"), shows())
		wantFault(t, "<!--esi"+blank+"<!--esi"+blank, 8, api.ErrNest)
		wantFault(t, "ab<!--esi"+blank+"c-<esi:try/><!--esi"+blank+"-->", 22, api.ErrNest)
		wantFault(t, "<!--esi"+blank+"--><!--esi"+blank+"<!--esi"+blank, 19, api.ErrNest)
		wantFault(t, "<!--esi"+blank+"<!--esi"+blank+"<esi:x", 8, api.ErrNest)
		wantFault(t, "<!--esi"+blank+"<esi:x<!--esi"+blank, 8, api.ErrTag)
	}
}

// TestFirst: P21.1, of several errors the one that a scan meets first.
func TestFirst(t *testing.T) {
	parts := []struct {
		s     string
		place int
		e     api.Errno
	}{
		{"<esi:x>", 0, api.ErrTag}, {"</esi:>", 0, api.ErrTag}, {"</esi:try a>", 0, api.ErrTag}, {"<esi:try a>", 10, api.ErrAttr}, {"<esi:try a='' a=''>", 14, api.ErrAttr}, {"<esi:try/x>", 9, api.ErrAttr},
		{"<esi:remove>a<esi:x></esi:remove>", 13, api.ErrNest}, {"<!--esi <!--esi -->", 8, api.ErrNest},
	}
	for _, a := range parts {
		for _, b := range parts {
			for _, between := range []string{"", "x", "<esi:vars>", "</esi:remove>", "</esi:inline >", "<esi:try a='b'/>", " -->"} {
				wantFault(t, a.s+between+b.s, a.place, a.e)
				wantFault(t, between+a.s+b.s, len(between)+a.place, a.e)
				wantFault(t, a.s+between+"<esi:try", a.place, a.e)
				wantFault(t, a.s+between+"<!--esi ", a.place, a.e)
			}
		}
	}
}

// TestByDefinition: P21.1 to P21.3, every text of few pieces.
func TestByDefinition(t *testing.T) {
	samples.Words([]string{" ", "a", "b", "=", "'", `"`, "/", ">", "\n"}, 5, func(s string) {
		wantDefined(t, "<esi:when"+s)
	})
	samples.Words([]string{" ", "a=''", `b=""`, "a", "=", "'", `"`, "/", ">", "<esi:try"}, 4, func(s string) {
		wantDefined(t, "<!--esi <esi:inline"+s+"</esi:inline>-->")
		wantDefined(t, "</esi:inline"+s)
	})
	samples.Words([]string{"<esi:vars>", "</esi:vars>", "<esi:remove>", "</esi:remove", "<esi:inline a='-->'>", "</esi:inline", "<esi:inline/>", ">", "<!--esi ", "-->", "-", " "}, 4, func(s string) {
		wantDefined(t, s)
		wantDefined(t, s+"</esi:remove></esi:inline>-->")
	})
	samples.Words([]string{"<", "/", "!", "-", "--", ">", "esi", ":", "try", "e", " "}, 5, func(s string) {
		wantDefined(t, s)
	})
}

// TestEachByte: P21.1 to P21.3, every byte at every place of a page: put there, and in place of what stood there.
func TestEachByte(t *testing.T) {
	for _, s := range []string{"a<!--esi <esi:try  b=\"'\" c='\"'>--></esi:try >-->", "<esi:remove>--</esi:remove><esi:inline d='' />\n</esi:inline>", "<!--esi\n<esi:inline name='e'><esi:</esi:inline>f-->g"} {
		samples.Spoilt(s, func(s string) { wantDefined(t, s) })
	}
}

// drawn answers the tokens of a page that has some of every kind.
func drawn(random *rand.Rand) []esilex.Token {
	var out []esilex.Token
	pick := func(l ...string) string { return samples.Pick(random.Intn, l...) }
	gap := func(least int) string {
		s := ""
		for range least + random.Intn(3) {
			s += pick(" ", "\t", "\n", "\r")
		}
		return s
	}
	hidden := false
	for range random.Intn(9) {
		name := pick(strings.Fields(names)...)
		tag, pairs := "<esi:"+name, []string(nil)
		for _, word := range []string{"a", "test", "abcdefghijklmnop", "src"}[random.Intn(5)%4:] {
			mark, value := pick(`"`, `'`), pick("", "/b", ">", "-->", "<esi:try/>", "\xff\x00", "a='b'")
			if strings.Contains(value, mark) {
				value = "'"[:1-strings.Count(mark, "'")]
			}
			tag += gap(1) + word + "=" + mark + value + mark
			pairs = append(pairs, word, value)
		}
		switch random.Intn(6) {
		case 0:
			if len(out) == 0 || out[len(out)-1].Kind != esilex.Text {
				out = append(out, plain(pick("a", "<p>", "</p>\r\n", "<!--", "<", "\xff\x00", "<esi", "a='b'")))
			}
		case 1:
			out = append(out, closes("</esi:"+name+gap(0)+">", name))
		case 2:
			out = append(out, opens(tag+gap(0)+"/>", name, pairs...))
		case 3, 4:
			out = append(out, opens(tag+gap(0)+">", name, pairs...))
			if name == "remove" || name == "inline" {
				out = append(out, raw(pick("", "a", "-->", "<!--esi ", "</esi:try>", "<p>")), closes("</esi:"+name+gap(0)+">", name))
			}
		case 5:
			if hidden = !hidden; hidden {
				out = append(out, hides(pick(" ", "\t", "\n", "\r")))
			} else {
				out = append(out, shows())
			}
		}
	}
	if hidden {
		out = append(out, shows())
	}
	return out
}

// TestThereAndBack: P21.1 to P21.3, the tokens of pages that are made of tokens; and P21.1 of such pages that were damaged.
func TestThereAndBack(t *testing.T) {
	random := rand.New(rand.NewSource(21))
	for range 20000 {
		l := drawn(random)
		s, _ := laid(l...)
		wantTokens(t, l...)
		wantDefined(t, s)
		for range random.Intn(3) {
			s = samples.Damaged(random.Intn, s, "", "<esi:", "\"", "'", " ", "-->", "a=''", ">", "<!--esi ")
		}
		wantDefined(t, s)
		if t.Failed() {
			return
		}
	}
}

// TestAnyBytes: P21.1, no call panics, whatever bytes it is given.
func TestAnyBytes(t *testing.T) {
	random := rand.New(rand.NewSource(210))
	for range 20000 {
		s := make([]byte, random.Intn(60))
		for i := range s {
			s[i] = byte(random.Intn(256))
			if random.Intn(4) > 0 {
				s[i] = "<esi:/>!- ='\"try"[random.Intn(16)]
			}
		}
		wantDefined(t, string(s))
		if t.Failed() {
			return
		}
	}
}

// TestLong: P21.1, long pages are scanned once, also such as look like something at every byte.
func TestLong(t *testing.T) {
	const n = 1 << 18
	for _, s := range []string{"x", "<", "<esi", "</esi", "<!--esi", "-->", "--", "\x00"} {
		wantTokens(t, plain(strings.Repeat(s, n)))
		wantTokens(t, hides(" "), plain(strings.Repeat(strings.TrimSuffix(s, ">"), n)+"<"), shows())
		wantTokens(t, opens("<esi:remove>", "remove"), raw(strings.Repeat(s, n)), closes("</esi:remove"+strings.Repeat(" ", n)+">", "remove"))
		wantTokens(t, opens("<esi:try a='"+strings.Repeat(s, n)+"'"+strings.Repeat("\n", n)+">", "try", "a", strings.Repeat(s, n)))
		wantFault(t, "<esi:remove>"+strings.Repeat(s, n), 0, api.ErrEnd)
	}
	for _, l := range [][]esilex.Token{
		{opens("<esi:try>", "try")}, {opens("<esi:try/>", "try"), plain("x")}, {closes("</esi:vars>", "vars")}, {opens("<esi:inline>", "inline"), raw(""), closes("</esi:inline>", "inline")}, {hides(" "), shows()}, {hides("\n"), plain("-"), shows(), plain("-->")},
	} {
		wantTokens(t, slices.Repeat(l, n/8)...)
	}
	var tag strings.Builder
	var pairs []string
	for i := range n / 4 {
		word := []byte{'a', 'a', 'a', 'a', 'a'}
		for j := range word {
			word[j] += byte(i % 26)
			i /= 26
		}
		pairs = append(pairs, string(word), "")
		tag.WriteString(" " + string(word) + "=''")
	}
	wantTokens(t, opens("<esi:try"+tag.String()+">", "try", pairs...))
	wantFault(t, "<esi:try"+tag.String()+" aaaaa=''>", 9+tag.Len(), api.ErrAttr)
}

// TestNewMemory: what comes in is neither changed nor kept, and no two answers, nor two lists of one, have a place in common.
func TestNewMemory(t *testing.T) {
	page := "a<!--esi <esi:include src='/b' alt=\"c\"/>-->d<esi:remove e='f'>g</esi:remove>"
	bytes := []byte(page)
	s := unsafe.String(&bytes[0], len(bytes))
	first, second := tokens(s), tokens(s)
	if string(bytes) != page {
		t.Errorf("changed: %q", bytes)
	}
	copy(bytes, strings.Repeat("#", len(bytes)))
	want := answer{[]esilex.Token{}, 0, api.OK}
	_, want.l = laid(plain("a"), hides(" "), opens("<esi:include src='/b' alt=\"c\"/>", "include", "src", "/b", "alt", "c"), shows(), plain("d"), opens("<esi:remove e='f'>", "remove", "e", "f"), raw("g"), closes("</esi:remove>", "remove"))
	for i := range first.l {
		if k := &first.l[i]; len(k.Attrs) > 0 {
			if !slices.Equal(k.Attrs, want.l[i].Attrs) {
				t.Errorf("kept: %s", first.told())
			}
			clear(k.Attrs[:cap(k.Attrs)])
			k.Attrs = slices.Clone(want.l[i].Attrs)
		}
	}
	if !first.same(want) || !second.same(want) {
		t.Errorf("kept: %s\n%s", first.told(), second.told())
	}
	clear(first.l[:cap(first.l)])
	if !second.same(want) {
		t.Errorf("kept: %s", second.told())
	}
}
