package tests

import (
	"math"
	"regexp"
	"slices"
	"strconv"
	"strings"
	"testing"

	"loop.example/g00512/impl"
)

func name(text string, at int) impl.Token {
	return impl.Token{Kind: impl.TokenName, At: at, Text: text}
}

func num(n int, at int) impl.Token {
	return impl.Token{Kind: impl.TokenNumber, N: n, At: at}
}

func symbol(text string, at int) impl.Token {
	return impl.Token{Kind: impl.TokenSymbol, At: at, Text: text}
}

func TestConstantsOfTokens(t *testing.T) {
	got := []int{impl.MaxCode, impl.MaxTokens, impl.TokenName, impl.TokenNumber, impl.TokenSymbol}
	if want := []int{160, 80, 1, 2, 3}; !slices.Equal(got, want) {
		t.Errorf("constants: %v; want %v", got, want)
	}
}

func TestTokenize(t *testing.T) {
	cases := []struct {
		s    string
		want []impl.Token
	}{
		{"", nil}, {" ", nil}, {"     ", nil}, {"a", []impl.Token{name("a", 0)}}, {"  a  ", []impl.Token{name("a", 2)}},
		{"abcdefgh", []impl.Token{name("abcdefgh", 0)}}, {"a1b2", []impl.Token{name("a1b2", 0)}},
		{"if lit", []impl.Token{name("if", 0), name("lit", 3)}},
		{"0", []impl.Token{num(0, 0)}}, {"1000000", []impl.Token{num(1000000, 0)}}, {"0 0", []impl.Token{num(0, 0), num(0, 2)}},
		{"12ab", []impl.Token{num(12, 0), name("ab", 2)}}, {"0a", []impl.Token{num(0, 0), name("a", 1)}},
		{"a12 3", []impl.Token{name("a12", 0), num(3, 4)}},
		{"==", []impl.Token{symbol("==", 0)}}, {"====", []impl.Token{symbol("==", 0), symbol("==", 2)}},
		{"$1.ab==12 \\ {3}", []impl.Token{
			symbol("$", 0), num(1, 1), symbol(".", 2), name("ab", 3), symbol("==", 5), num(12, 7), symbol("\\", 10),
			symbol("{", 12), num(3, 13), symbol("}", 14),
		}},
		{"(){},.$+-*<|&\\", []impl.Token{
			symbol("(", 0), symbol(")", 1), symbol("{", 2), symbol("}", 3), symbol(",", 4), symbol(".", 5), symbol("$", 6),
			symbol("+", 7), symbol("-", 8), symbol("*", 9), symbol("<", 10), symbol("|", 11), symbol("&", 12), symbol("\\", 13),
		}},
		{"a<b", []impl.Token{name("a", 0), symbol("<", 1), name("b", 2)}},
		{"-5", []impl.Token{symbol("-", 0), num(5, 1)}},
	}
	for _, c := range cases {
		if got, bad := impl.Tokenize(c.s); !slices.Equal(got, c.want) || bad != -1 {
			t.Errorf("Tokenize(%q) = %v, %d; want %v", c.s, got, bad, c.want)
		}
	}
}

func tokenizeFails(t *testing.T, s string, at int) {
	t.Helper()
	if got, bad := impl.Tokenize(s); len(got) != 0 || bad != at {
		t.Errorf("Tokenize(%q) = %v, %d; want nil, %d", s, got, bad, at)
	}
}

func TestTokenizeErrors(t *testing.T) {
	cases := map[string]int{
		"=": 0, "a =b": 2, "a = b": 2, "===": 2, "a= =": 1, "=a": 0, "<=": 1, "==  =": 4,
		"00": 0, "01": 0, "a 007": 2, "0 00": 2, "abcdefghi": 0, "a abcdefgh9": 2, "abcdefghABC": 8,
		"1000001": 0, "9999999": 0, "1 10000000": 2, "18446744073709551617": 0, "9223372036854775808": 0,
		"A": 0, "aB": 1, "a_b": 1, "_": 0, "a\tb": 1, "\n": 0, "a\x00": 1, "1 \xff": 2, "\u00e9": 0, "a>b": 1, "a!": 1,
		"a/b": 1, "[": 0, "a:=b": 1, "\"a\"": 0, "'": 0, "#1": 0, "%": 0, "@": 0, "^": 0, "~": 0, "`": 0, ";": 0, "?": 0,
		// The first one of several errors counts.
		"abcdefghi =": 0, "= abcdefghi": 0, "a 00 A": 2,
	}
	for s, at := range cases {
		tokenizeFails(t, s, at)
	}
}

func TestTokenizeLimits(t *testing.T) {
	long := strings.Repeat("a", 8) + strings.Repeat(" ", 152)
	if got, bad := impl.Tokenize(long); len(got) != 1 || bad != -1 {
		t.Errorf("160 bytes: %v, %d", got, bad)
	}
	tokenizeFails(t, long+" ", 160)
	tokenizeFails(t, strings.Repeat(" ", 161), 160)
	tokenizeFails(t, "=A\xff"+long, 160)
	tokenizeFails(t, strings.Repeat("(", 5000), 160)
	for n := 78; n <= 84; n++ {
		for _, part := range []string{"(", "1 ", "a ", "=="} {
			s := strings.Repeat(part, n)
			if len(s) > 160 {
				continue
			}
			if n > 80 {
				tokenizeFails(t, s, 80*len(part))
			} else if got, bad := impl.Tokenize(s); len(got) != n || bad != -1 {
				t.Errorf("Tokenize(%q): %d tokens, %d", s, len(got), bad)
			}
		}
	}
	full := strings.Repeat("(", 80)
	if got, bad := impl.Tokenize(full + "   "); len(got) != 80 || bad != -1 {
		t.Errorf("80 tokens and spaces: %d tokens, %d", len(got), bad)
	}
	tokenizeFails(t, full+"  =", 82)
	tokenizeFails(t, full+"  a =", 82)
	tokenizeFails(t, full[1:]+"= (", 79)
}

// wantTokens finds tokens with regular expressions.
func wantTokens(s string) ([]impl.Token, int) {
	names := regexp.MustCompile(`^[a-z][a-z0-9]*`)
	numbers := regexp.MustCompile(`^[0-9]+`)
	symbols := regexp.MustCompile(`^(==|[(){},.$+*<|&\\-])`)
	var list []impl.Token
	if len(s) > 160 {
		return nil, 160
	}
	for at := 0; at < len(s); {
		rest := s[at:]
		if rest[0] == ' ' {
			at++
			continue
		}
		text, t := "", impl.Token{}
		if text = names.FindString(rest); text != "" && len(text) <= 8 {
			t = name(text, at)
		} else if text = numbers.FindString(rest); text != "" {
			n, err := strconv.Atoi(text)
			if err != nil || n > 1000000 || strconv.Itoa(n) != text {
				return nil, at
			}
			t = num(n, at)
		} else if text = symbols.FindString(rest); text != "" {
			t = symbol(text, at)
		}
		if t.Kind == 0 || len(list) == 80 {
			return nil, at
		}
		list = append(list, t)
		at += len(text)
	}
	return list, -1
}

// TestTokenizeAllShortStrings also checks promise 5: the formatted tokens are the same tokens again.
func TestTokenizeAllShortStrings(t *testing.T) {
	for _, s := range stringsOf("a0 1=$.{\\A", 5) {
		want, at := wantTokens(s)
		got, bad := impl.Tokenize(s)
		if bad != at || !slices.Equal(got, want) {
			t.Fatalf("Tokenize(%q) = %v, %d; want %v, %d", s, got, bad, want, at)
		}
		tokensAreParsed(t, got)
	}
	for b := range 256 {
		s := "1" + string([]byte{byte(b)}) + "a"
		want, at := wantTokens(s)
		if got, bad := impl.Tokenize(s); bad != at || !slices.Equal(got, want) {
			t.Fatalf("Tokenize(%q) = %v, %d; want %v, %d", s, got, bad, want, at)
		}
	}
}

func tokensAreParsed(t *testing.T, list []impl.Token) {
	t.Helper()
	s := impl.FormatTokens(list)
	again, bad := impl.Tokenize(s)
	if bad != -1 || len(again) != len(list) {
		t.Fatalf("Tokenize(%q) = %v, %d; want %v", s, again, bad, list)
	}
	for i := range list {
		want := list[i]
		want.At = again[i].At
		if again[i] != want || !strings.HasPrefix(s[want.At:], impl.FormatTokens(list[i:i+1])) {
			t.Fatalf("token %d of %q is %v; want %v", i, s, again[i], want)
		}
	}
}

func TestFormatTokens(t *testing.T) {
	cases := []struct {
		list []impl.Token
		want string
	}{
		{nil, ""}, {[]impl.Token{{}}, ""}, {[]impl.Token{{}, {}}, " "}, {[]impl.Token{name("a", 9)}, "a"},
		{[]impl.Token{symbol("$", 0), num(1, 1), symbol(".", 2), name("ab", 3), symbol("==", 5), num(12, 7)}, "$ 1 . ab == 12"},
		{[]impl.Token{num(-5, 0), num(math.MinInt, 0), num(1000001, 0)}, "-5 -9223372036854775808 1000001"},
		{[]impl.Token{{Kind: impl.TokenNumber, Text: "a"}, {Kind: impl.TokenName, N: 7}, {Kind: 4, Text: "a", N: 5}, name("A b", 0)}, "0   A b"},
		{[]impl.Token{{Kind: -1, Text: "a"}, symbol("[", 3), {Kind: math.MaxInt, N: 1}}, " [ "},
	}
	for _, c := range cases {
		if got := impl.FormatTokens(c.list); got != c.want {
			t.Errorf("FormatTokens(%v) = %q; want %q", c.list, got, c.want)
		}
	}
}

func TestIsWord(t *testing.T) {
	cases := []struct {
		token impl.Token
		s     string
		want  bool
	}{
		{name("if", 3), "if", true}, {symbol("==", 0), "==", true}, {name("if", 0), "i", false}, {name("if", 0), "", false},
		{symbol("=", 0), "==", false}, {num(5, 0), "5", false}, {num(5, 0), "", false}, {impl.Token{}, "", false},
		{impl.Token{Kind: impl.TokenNumber, Text: "a"}, "a", false}, {impl.Token{Kind: 4, Text: "a"}, "a", false},
		{impl.Token{Text: "a"}, "a", false}, {impl.Token{Kind: impl.TokenName}, "", true}, {name("a", 0), "A", false},
	}
	for _, c := range cases {
		if got := impl.IsWord(c.token, c.s); got != c.want {
			t.Errorf("IsWord(%v, %q) = %v", c.token, c.s, got)
		}
	}
}
