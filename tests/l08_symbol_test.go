package tests

import (
	"slices"
	"strings"
	"testing"

	"loop.example/g00512/impl"
)

func TestConstantsOfSymbols(t *testing.T) {
	got := []int{impl.MaxAttributes, impl.MaxSymbols, impl.ModeInherited, impl.ModeSynthesized, impl.ModeCollected}
	if want := []int{4, 4, 1, 2, 3}; !slices.Equal(got, want) {
		t.Errorf("constants: %v; want %v", got, want)
	}
}

// allAttributes contains an attribute for each mode and type, in and outside of their ranges, circular or not.
func allAttributes() []impl.Attribute {
	var list []impl.Attribute
	for mode := -1; mode <= 5; mode++ {
		for kind := -1; kind <= 6; kind++ {
			list = append(list, impl.Attribute{Name: "a", Type: kind, Mode: mode}, impl.Attribute{Name: "a", Type: kind, Mode: mode, Circular: true})
		}
	}
	return list
}

// wantValid: a set may be circular unless it is collected; what is collected is a set.
func wantValid(a impl.Attribute) bool {
	if a.Mode < 1 || a.Mode > 3 || a.Type < 1 || a.Type > 4 {
		return false
	}
	if a.Mode == impl.ModeCollected {
		return a.Type == impl.TypeSet && !a.Circular
	}
	return !a.Circular || a.Type == impl.TypeSet
}

func TestIsValidAttribute(t *testing.T) {
	valid := 0
	for _, a := range allAttributes() {
		if got := impl.IsValidAttribute(a); got != wantValid(a) {
			t.Errorf("IsValidAttribute(%+v) = %v", a, got)
		}
		if wantValid(a) {
			valid++
		}
		for _, s := range []string{"", "lit", "of", "abcdefghi", "A", "a b", "a:", "1"} {
			a.Name = s
			if impl.IsValidAttribute(a) {
				t.Errorf("IsValidAttribute(%+v) = true", a)
			}
		}
	}
	if valid != 4+4+2+1 {
		t.Errorf("%d valid attributes", valid)
	}
}

func plain(name string) impl.Attribute {
	return impl.Attribute{Name: name, Type: impl.TypeNumber, Mode: impl.ModeSynthesized}
}

func TestIsValidSymbol(t *testing.T) {
	names := []string{"a", "b", "c", "d", "e", "f"}
	for n := range names {
		s := impl.Symbol{Name: "s"}
		for _, name := range names[:n] {
			s.Attributes = append(s.Attributes, plain(name))
		}
		if got := impl.IsValidSymbol(s); got != (n <= 4) {
			t.Errorf("%d attributes: valid = %v", n, got)
		}
		for i := range n {
			for k := range i {
				twice := impl.Symbol{Name: "s", Attributes: slices.Clone(s.Attributes)}
				twice.Attributes[i] = impl.Attribute{Name: names[k], Type: impl.TypeSet, Mode: impl.ModeInherited}
				if impl.IsValidSymbol(twice) {
					t.Errorf("valid with equal names at %d and %d of %d", k, i, n)
				}
			}
			broken := impl.Symbol{Name: "s", Attributes: slices.Clone(s.Attributes)}
			broken.Attributes[i].Circular = true
			if impl.IsValidSymbol(broken) {
				t.Errorf("valid with an invalid attribute %d of %d", i, n)
			}
		}
	}
	for name, want := range map[string]bool{"s": true, "abcdefgh": true, "abcdefghi": false, "": false, "lit": false, "S": false} {
		if impl.IsValidSymbol(impl.Symbol{Name: name}) != want || impl.IsValidSymbol(impl.Symbol{Name: name, Attributes: []impl.Attribute{plain("a")}}) != want {
			t.Errorf("the name %q: valid = %v", name, !want)
		}
	}
	// An attribute may have the name of its symbol.
	if !impl.IsValidSymbol(impl.Symbol{Name: "s", Attributes: []impl.Attribute{plain("s")}}) {
		t.Error("an attribute with the name of its symbol")
	}
}

func TestFindAttribute(t *testing.T) {
	s := impl.Symbol{Name: "s", Attributes: []impl.Attribute{
		plain("a"), {Name: "b", Type: 9, Mode: -1}, {Name: "a", Type: impl.TypeSet, Mode: impl.ModeInherited}, {Name: "", Type: 5},
	}}
	cases := map[string]impl.Attribute{"a": plain("a"), "b": {Name: "b", Type: 9, Mode: -1}, "": {Type: 5}}
	for name, want := range cases {
		if got, ok := impl.FindAttribute(s, name); got != want || !ok {
			t.Errorf("FindAttribute(%q) = %+v, %v; want %+v", name, got, ok, want)
		}
	}
	for _, name := range []string{"c", "s", "A", "ab", "a "} {
		if got, ok := impl.FindAttribute(s, name); got != (impl.Attribute{}) || ok {
			t.Errorf("FindAttribute(%q) = %+v, %v", name, got, ok)
		}
	}
	if got, ok := impl.FindAttribute(impl.Symbol{}, ""); got != (impl.Attribute{}) || ok {
		t.Errorf("FindAttribute of the zero symbol = %+v, %v", got, ok)
	}
}

func equalSymbols(a impl.Symbol, b impl.Symbol) bool {
	return a.Name == b.Name && slices.Equal(a.Attributes, b.Attributes)
}

func TestFormatSymbol(t *testing.T) {
	cases := []struct {
		s    impl.Symbol
		want string
	}{
		{impl.Symbol{Name: "s"}, "symbol s"}, {impl.Symbol{Name: "symbol"}, "symbol symbol"},
		{impl.Symbol{Name: "s", Attributes: []impl.Attribute{plain("a"), {Name: "b", Type: impl.TypeSet, Mode: impl.ModeInherited, Circular: true}}}, "symbol s a:syn:num b:inh:set!"},
		{impl.Symbol{Name: "s", Attributes: []impl.Attribute{{Name: "c", Type: impl.TypeSet, Mode: impl.ModeCollected}}}, "symbol s c:col:set"},
		{impl.Symbol{Name: "s", Attributes: []impl.Attribute{{Name: "c", Type: impl.TypeNode, Mode: impl.ModeInherited}, {Name: "d", Type: impl.TypeBool, Mode: impl.ModeSynthesized}}}, "symbol s c:inh:node d:syn:bool"},
		{impl.Symbol{}, ""}, {impl.Symbol{Name: "lit"}, ""}, {impl.Symbol{Name: "s", Attributes: []impl.Attribute{{}}}, ""},
		{impl.Symbol{Name: "s", Attributes: []impl.Attribute{plain("a"), plain("a")}}, ""},
		{impl.Symbol{Name: "s", Attributes: []impl.Attribute{{Name: "a", Type: 7, Mode: 9}}}, ""},
		{impl.Symbol{Name: "s", Attributes: []impl.Attribute{{Name: "a", Type: -7, Mode: -9}}}, ""},
		{impl.Symbol{Name: "s", Attributes: slices.Repeat([]impl.Attribute{plain("a")}, 1000)}, ""},
	}
	for _, c := range cases {
		if got := impl.FormatSymbol(c.s); got != c.want {
			t.Errorf("FormatSymbol(%+v) = %q; want %q", c.s, got, c.want)
		}
	}
}

// TestSymbolsAreParsedFromTheirLines: promise 8 for all pairs of attributes.
func TestSymbolsAreParsedFromTheirLines(t *testing.T) {
	lines := map[string]bool{}
	for _, a := range allAttributes() {
		for _, b := range allAttributes() {
			b.Name = "b2"
			s := impl.Symbol{Name: "abcdefgh", Attributes: []impl.Attribute{a, b}}
			line := impl.FormatSymbol(s)
			if (line != "") != (wantValid(a) && wantValid(b)) {
				t.Fatalf("FormatSymbol(%+v) = %q", s, line)
			}
			if line == "" {
				continue
			}
			lines[line] = true
			if got, ok := impl.ParseSymbol(line); !equalSymbols(got, s) || !ok {
				t.Fatalf("ParseSymbol(%q) = %+v, %v; want %+v", line, got, ok, s)
			}
		}
	}
	if len(lines) != 11*11 {
		t.Errorf("%d different lines", len(lines))
	}
}

func TestParseSymbolRejects(t *testing.T) {
	lines := []string{
		"", " ", "symbol", "symbol ", "symbols", "symbol  s", " symbol s", "symbol s ", "symbol s  a:syn:num", "symbol s a:syn:num ", "Symbol s",
		"rule s", "s", "s a:syn:num", "symbol if", "symbol abcdefghi", "symbol S", "symbol s a", "symbol s a:", "symbol s a:syn", "symbol s a:num",
		"symbol s a:syn:", "symbol s a:syn:num:", "symbol s a:syn:num:x", "symbol s :syn:num", "symbol s a::num", "symbol s a::", "symbol s ::",
		"symbol s a:num:syn", "symbol s a:SYN:num", "symbol s a:syn:number", "symbol s a:1:1", "symbol s a:?:num", "symbol s a:syn:?", "symbol s a:xyz:num", "symbol s lit:syn:num",
		"symbol s a:inh:num!", "symbol s a:syn:bool!", "symbol s a:inh:node!", "symbol s a:col:num", "symbol s a:col:set!", "symbol s a:col:node",
		"symbol s a:syn:set!!", "symbol s a:syn:!set", "symbol s a!:syn:set", "symbol s a:syn:set !", "symbol s !a:syn:set", "symbol s! a:syn:set",
		"symbol s a:inh:num a:syn:set", "symbol s a:syn:num b:syn:num c:syn:num d:syn:num e:syn:num", "symbol s a:syn:num,b:syn:num",
		"symbol s a:syn:num\n", "symbol s\n", "symbol\ts", "symbol s\x00", "symbol s a:syn:num\r", "symbol \xff", "symbol s " + strings.Repeat("a", 5000),
	}
	for _, line := range lines {
		if got, ok := impl.ParseSymbol(line); !equalSymbols(got, impl.Symbol{}) || ok {
			t.Errorf("ParseSymbol(%q) = %+v, %v", line, got, ok)
		}
	}
}

// TestParseSymbolDamaged: a line that is accepted in spite of a changed byte is that of the result.
func TestParseSymbolDamaged(t *testing.T) {
	line := "symbol s a:inh:num b:syn:set! c:col:set d:syn:node"
	if _, ok := impl.ParseSymbol(line); !ok {
		t.Fatalf("ParseSymbol(%q)", line)
	}
	for i := range len(line) {
		for b := range 256 {
			for _, changed := range []string{line[:i] + string([]byte{byte(b)}) + line[i+1:], line[:i] + string([]byte{byte(b)}) + line[i:], line[:i] + line[i+1:]} {
				got, ok := impl.ParseSymbol(changed)
				if ok && impl.FormatSymbol(got) != changed || !ok && !equalSymbols(got, impl.Symbol{}) {
					t.Fatalf("ParseSymbol(%q) = %+v, %v", changed, got, ok)
				}
			}
		}
	}
}
