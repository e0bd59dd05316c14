package tree_test

import (
	"strings"
	"testing"

	"cellar/api"
	"cellar/lex"
	"cellar/samples"
	"cellar/tree"
)

// rules are the chapter's grammar, so cut that one word tells how to go on. IN and OUT stand around statements, types and
// expressions; NODE where a node ends; END is the text's; other large words are of words.
func rules() map[string]string {
	return map[string]string{
		"program":      "declarations statements END NODE",
		"declarations": " | declaration declarations",
		"declaration":  "var NAME : type ; NODE",
		"type":         "IN plain arrays OUT",
		"plain":        "KIND NODE | struct { fields } NODE | union { fields } NODE",
		"fields":       "field more",
		"more":         " | field more",
		"field":        "NAME : type ; NODE",
		"arrays":       " | [ NUMBER ] NODE arrays",
		"place":        "NAME NODE behind | * KIND ( expression ) NODE behind",
		"behind":       " | . NAME NODE behind | [ expression ] NODE behind",
		"expression":   "IN some OUT",
		"some":         "NUMBER : NUMBERS NODE | place | & place NODE | NUMBERS ( expression ) NODE | - expression NODE | ~ expression NODE | ! expression NODE | ( expression operator expression ) NODE",
		"operator":     "+ | - | * | / | % | & | OR | ^ | << | >> | == | <",
		"statement":    "IN done OUT",
		"done":         "place = expression ; NODE | read place ; NODE | new place , NUMBER ; NODE | free expression ; NODE | stop ; NODE | if expression block maybe | while expression block NODE",
		"maybe":        "NODE | else block NODE",
		"block":        "{ statements } NODE",
		"statements":   " | statement statements",
	}
}

// grammar is rules, cut into what may stand for each.
var grammar = func() map[string][][]string {
	g := map[string][][]string{}
	for s, all := range rules() {
		for _, one := range strings.Split(all, "|") {
			g[s] = append(g[s], strings.Fields(strings.ReplaceAll(one, "OR", "|")))
		}
	}
	return g
}()

// fits is whether a word may stand where the grammar says want; "" is the text's end.
func fits(word string, want string) bool {
	switch want {
	case "NAME":
		return word != "" && word[0] >= 'a' && word[0] <= 'z' && !lex.Keyword(word)
	case "NUMBER":
		return word != "" && word[0] >= '0' && word[0] <= '9'
	case "KIND":
		return word == "ptr" || fits(word, "NUMBERS")
	case "NUMBERS":
		return len(word) > 1 && strings.Contains(" u8 i8 u16 i16 u32 i32 ", " "+word+" ")
	case "END":
		return word == ""
	}
	return word == want
}

// todo is what is still to come of one way to read the words so far.
type todo struct {
	first string
	rest  *todo
}

func ahead(l []string, rest *todo) *todo {
	for i := len(l) - 1; i >= 0; i-- {
		rest = &todo{l[i], rest}
	}
	return rest
}

// way is one way to read the words so far.
type way struct {
	next   *todo
	around int
	nodes  int
}

// step is all ways to go on with a word, and whether some way is beyond a limit ahead of
// the word (a node too much) or at it (too deep).
func step(ways []way, word string) (l []way, much bool, deep bool) {
	for len(ways) > 0 {
		w := ways[0]
		ways = ways[1:]
		first, rest := "", w.next
		if w.next != nil {
			first, rest = w.next.first, w.next.rest
		}
		switch {
		case w.next == nil:
		case first == "NODE":
			if w.nodes == api.MaxNodes {
				much = true
				continue
			}
			ways = append(ways, way{rest, w.around, w.nodes + 1})
		case first == "IN":
			if w.around == 20 {
				deep = true
				continue
			}
			ways = append(ways, way{rest, w.around + 1, w.nodes})
		case first == "OUT":
			ways = append(ways, way{rest, w.around - 1, w.nodes})
		case grammar[first] != nil:
			for _, one := range grammar[first] {
				ways = append(ways, way{ahead(one, rest), w.around, w.nodes})
			}
		case fits(word, first):
			l = append(l, way{rest, w.around, w.nodes})
		}
	}
	return l, much, deep
}

func begin() []way {
	return []way{{next: ahead([]string{"program"}, nil)}}
}

// says is the chapter's words on a text's words that begin at these places, the text's
// length behind them; where is its error, if there is one.
func says(words []string, places []int) (where int, e api.Errno) {
	ways := begin()
	for i := range places {
		word := ""
		if i < len(words) {
			word = words[i]
		}
		l, much, deep := step(ways, word)
		switch {
		case len(l) > 0:
			ways = l
		case much:
			return places[i-1], api.ErrLimit
		case deep:
			return places[i], api.ErrLimit
		default:
			return places[i], api.ErrParse
		}
	}
	if _, much, _ := step(ways, ""); much { // the program's own node
		return places[len(places)-2], api.ErrLimit
	}
	return 0, api.OK
}

// holds checks Parse of words, written as a text, against the chapter's words.
func holds(t *testing.T, words []string, places []int, text string) (e api.Errno) {
	t.Helper()
	where, want := says(words, places)
	l, at, e := tree.Parse(text)
	if at != where || e != want || (len(l) == 0) != (e != api.OK) {
		t.Fatalf("Parse(%q) = %s, %d, %d; want %d, %d", text, short(l), at, e, where, want)
	}
	return e
}

// apart is words as a text with a blank behind each, and where they begin, and its length.
func apart(words []string) (string, []int) {
	text, places := "", []int{}
	for _, w := range words {
		places = append(places, len(text))
		text += w + " "
	}
	return text, append(places, len(text))
}

// P11.1, Parse: behind rows of words that may begin a program, up to some length, each
// word, and the end. Of words that may stand where another one may just that goes on.
func TestRows(t *testing.T) {
	all := append(append(samples.Signs(), samples.Keywords()...), "a", "7")
	like := " i8 u16 i16 u32 i32 union ~ ! / % | ^ << >> == < "
	tried := 0
	var try func(row []string, ways []way, more int)
	try = func(row []string, ways []way, more int) {
		text, places := apart(row)
		holds(t, row, places, text)
		for _, w := range all {
			longer := append(row[:len(row):len(row)], w)
			next, _, _ := step(ways, w)
			if tried++; len(next) > 0 && more > 0 && !strings.Contains(like, " "+w+" ") {
				try(longer, next, more-1)
				continue
			}
			text, places := apart(longer)
			holds(t, longer, places, text)
		}
	}
	try(nil, begin(), 5)
	for _, s := range []string{"var a : u8 ;", "stop ;", "a = ", "var a : struct { a : u8 ;", "if a { }", "if a { } else {", "while a {", "read a", "new a", "free a [ 7 :", "free ( a", "free * u8 ( a", "a . a [ a ]", "var a : u8 ["} {
		row := strings.Fields(s)
		ways := begin()
		for _, w := range row {
			ways, _, _ = step(ways, w)
		}
		try(row, ways, 3)
	}
	if tried < 50000 {
		t.Errorf("only %d rows were tried", tried)
	}
}
