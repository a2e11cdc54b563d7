package conf

import (
	"reflect"
	"slices"
	"strings"
	"testing"

	"culvert/api"
)

// short is the shortest text that may be, of two lines.
const short = "router-id " + idText + "\ninterface e0 wired address fe80::1\n"

// shortConf is what short says.
func shortConf(t testing.TB) api.Config {
	t.Helper()
	return api.Config{
		Id:         api.RouterId{0, 1, 2, 3, 4, 5, 6, 255},
		Ifs:        []api.IfConf{{Name: "e0", Cost: 96, Hello: 4000, Update: 16000, Mtu: 1280, Addr: address(t, "fe80::1")}},
		Neighbours: 256, Sources: 1024, Routes: 1024, Requests: 256,
	}
}

// parses tells that a text says what want says; it looks at all fields beside Same.
func parses(t *testing.T, text string, want api.Config) {
	t.Helper()
	c, e, at := Parse(text)
	if e != api.OK || at != 0 {
		t.Errorf("Parse(%q) = %d, line %d", text, e, at)
		return
	}
	if !equal(c, want) {
		t.Errorf("Parse(%q) = %+v, want %+v", text, c, want)
	}
	if Check(c) != api.OK { // P9.9
		t.Errorf("Parse(%q) tells what Check refuses", text)
	}
}

// equal is Same by other means: a list that is empty may be nil.
func equal(a, b api.Config) bool {
	for _, c := range []*api.Config{&a, &b} {
		c.Ifs, c.Rules, c.Locals = append([]api.IfConf{}, c.Ifs...), append([]api.Rule{}, c.Rules...), append([]api.Local{}, c.Locals...)
	}
	return reflect.DeepEqual(a, b)
}

func refuses(t *testing.T, text string, want api.Errno, wantAt int) {
	t.Helper()
	c, e, at := Parse(text)
	if e != want || at != wantAt || !reflect.DeepEqual(c, api.Config{}) {
		t.Errorf("Parse(%q) = %+v, %d, line %d, want %d, line %d", text, c, e, at, want, wantAt)
	}
}

func TestParseWhatIsNotSaid(t *testing.T) { // P9.4
	parses(t, short, shortConf(t))
	wireless := shortConf(t)
	wireless.Ifs[0].Kind, wireless.Ifs[0].Cost = api.Wireless, 256
	parses(t, "router-id "+idText+"\ninterface e0 wireless address fe80::1", wireless)
	parses(t, "# first\n\n  interface e0 \"wired\" address fe80::1 # behind\n\nrouter-id "+idText, shortConf(t))
}

func TestParseAttributes(t *testing.T) { // P9.4
	for s, do := range map[string]func(f *api.IfConf){
		"cost 1":                            func(f *api.IfConf) { f.Cost = 1 },
		"cost 65534":                        func(f *api.IfConf) { f.Cost = 65534 },
		"hello 10":                          func(f *api.IfConf) { f.Hello = 10 },
		"hello 655350":                      func(f *api.IfConf) { f.Hello = 655350 },
		"update 10":                         func(f *api.IfConf) { f.Update = 10 },
		"mtu 64":                            func(f *api.IfConf) { f.Mtu = 64 },
		"mtu 65539":                         func(f *api.IfConf) { f.Mtu = 65539 },
		"address4 10.0.0.1":                 func(f *api.IfConf) { f.Addr4 = address(t, "10.0.0.1") },
		"address4 ::ffff:a00:1":             func(f *api.IfConf) { f.Addr4 = address(t, "10.0.0.1") },
		"address4 0.0.0.0":                  func(f *api.IfConf) { f.Addr4 = address(t, "0.0.0.0") },
		"address4 ::":                       func(f *api.IfConf) {},
		"rtt 0 1 1 1":                       func(f *api.IfConf) { f.Rtt = api.Rtt{On: true, Max: 1, Cost: 1, Decay: 1} },
		"rtt 999999 1000000 65534 256":      func(f *api.IfConf) { f.Rtt = api.Rtt{On: true, Min: 999999, Max: 1000000, Cost: 65534, Decay: 256} },
		"rtt 1 2 3 4 cost 5":                func(f *api.IfConf) { f.Rtt, f.Cost = api.Rtt{On: true, Min: 1, Max: 2, Cost: 3, Decay: 4}, 5 },
		"mtu 70 update 60 hello 50 cost 40": func(f *api.IfConf) { f.Cost, f.Hello, f.Update, f.Mtu = 40, 50, 60, 70 },
	} {
		for _, kind := range []int{api.Wired, api.Wireless} {
			want := shortConf(t)
			want.Ifs[0].Kind = kind
			want.Ifs[0].Cost = []int{96, 256}[kind]
			do(&want.Ifs[0])
			line := "interface e0 " + kinds()[kind]
			parses(t, "router-id "+idText+"\n"+line+" address fe80::1 "+s, want)
			parses(t, "router-id "+idText+"\n"+line+" "+s+" address fe80::1", want)
		}
	}
}

func TestParseLocalsAndLimits(t *testing.T) { // P9.4
	for s, do := range map[string]func(c *api.Config){
		"limit neighbours 1":                             func(c *api.Config) { c.Neighbours = 1 },
		"limit sources 4096":                             func(c *api.Config) { c.Sources = 4096 },
		"limit routes 7":                                 func(c *api.Config) { c.Routes = 7 },
		"limit requests 8":                               func(c *api.Config) { c.Requests = 8 },
		"announce 10.0.0.0/8 metric 0":                   func(c *api.Config) { c.Locals = []api.Local{{Pair: pair(t, "10.0.0.0/8")}} },
		"announce ::/0 metric 65534":                     func(c *api.Config) { c.Locals = []api.Local{{Pair: pair(t, "::/0"), Metric: 65534}} },
		"announce ::/0 from 1::/16 metric 9":             func(c *api.Config) { c.Locals = []api.Local{{Pair: pair(t, "::/0 from 1::/16"), Metric: 9}} },
		"announce 10.0.0.0/8 from 0.0.0.0/0 metric 1":    func(c *api.Config) { c.Locals = []api.Local{{Pair: pair(t, "10.0.0.0/8"), Metric: 1}} },
		"announce \"::/0\" \"from\" 1::/16 \"metric\" 9": func(c *api.Config) { c.Locals = []api.Local{{Pair: pair(t, "::/0 from 1::/16"), Metric: 9}} },
		"filter out add 9":                               func(c *api.Config) { c.Rules = []api.Rule{{Chain: 1, Add: 9}} },
		"filter in allow\nfilter in allow":               func(c *api.Config) { c.Rules = make([]api.Rule, 2) },
		"limit requests 8\nannounce ::/0 metric 5\nlimit routes 9\nannounce 1::/16 metric 6\nfilter out deny": func(c *api.Config) {
			c.Requests, c.Routes, c.Rules = 8, 9, []api.Rule{{Chain: 1, Deny: true}}
			c.Locals = []api.Local{{Pair: pair(t, "::/0"), Metric: 5}, {Pair: pair(t, "1::/16"), Metric: 6}}
		},
	} {
		want := shortConf(t)
		do(&want)
		parses(t, short+s, want)
		parses(t, s+"\n"+short, want)
	}
}

func TestParseRefusesALine(t *testing.T) { // P9.4
	for s, want := range map[string]api.Errno{
		// A word that is missing, one too many, or none of those that the table says.
		"x":                                          api.ErrWord,
		"\"\"":                                       api.ErrWord,
		"Limit routes 5":                             api.ErrWord,
		"interface":                                  api.ErrWord,
		"interface e1":                               api.ErrWord,
		"interface e1 Wired":                         api.ErrWord,
		"interface e1 cost 5":                        api.ErrWord,
		"interface wired":                            api.ErrWord,
		"interface e1 wired wired":                   api.ErrWord,
		"interface e1 wired x":                       api.ErrWord,
		"interface e1 wired cost":                    api.ErrWord,
		"interface e1 wired hello":                   api.ErrWord,
		"interface e1 wired update":                  api.ErrWord,
		"interface e1 wired mtu":                     api.ErrWord,
		"interface e1 wired address":                 api.ErrWord,
		"interface e1 wired address4":                api.ErrWord,
		"interface e1 wired rtt":                     api.ErrWord,
		"interface e1 wired rtt 1":                   api.ErrWord,
		"interface e1 wired rtt 1 2":                 api.ErrWord,
		"interface e1 wired rtt 1 2 3":               api.ErrWord,
		"interface e1 wired rtt 1 2 3 4 5":           api.ErrWord,
		"interface e1 wired address fe80::2 x":       api.ErrWord,
		"interface e1 wired name e1":                 api.ErrWord,
		"filter":                                     api.ErrWord,
		"filter x":                                   api.ErrWord,
		"filter in":                                  api.ErrWord,
		"filter in allow x":                          api.ErrWord,
		"filter in ge 8 allow":                       api.ErrWord,
		"announce":                                   api.ErrWord,
		"announce ::/0":                              api.ErrWord,
		"announce ::/0 metric":                       api.ErrWord,
		"announce ::/0 5":                            api.ErrWord,
		"announce ::/0 x 5":                          api.ErrWord,
		"announce ::/0 ::/0 metric 5":                api.ErrWord,
		"announce ::/0 metric 5 6":                   api.ErrWord,
		"announce ::/0 metric 5 from ::/0":           api.ErrWord,
		"announce ::/0 from":                         api.ErrWord,
		"announce ::/0 from ::/0":                    api.ErrWord,
		"announce ::/0 from ::/0 metric":             api.ErrWord,
		"announce ::/0 from ::/0 x 5":                api.ErrWord,
		"announce ::/0 from ::/0 from ::/0 metric 5": api.ErrWord,
		"limit":                    api.ErrWord,
		"limit x":                  api.ErrWord,
		"limit x 5":                api.ErrWord,
		"limit 5":                  api.ErrWord,
		"limit Routes 5":           api.ErrWord,
		"limit routes":             api.ErrWord,
		"limit routes 5 6":         api.ErrWord,
		"limit routes 5 sources 6": api.ErrWord,
		// Said again, whatever stands behind.
		"router-id 00:00:00:00:00:00:00:01":                          api.ErrTwice,
		"router-id " + idText:                                        api.ErrTwice,
		"router-id":                                                  api.ErrTwice,
		"router-id x y":                                              api.ErrTwice,
		"interface e1 wired cost 1 cost 2":                           api.ErrTwice,
		"interface e1 wired cost 1 cost":                             api.ErrTwice,
		"interface e1 wired cost 96 cost x":                          api.ErrTwice,
		"interface e1 wired hello 10 mtu 64 hello 10":                api.ErrTwice,
		"interface e1 wired update 10 update 10":                     api.ErrTwice,
		"interface e1 wired mtu 64 mtu 64":                           api.ErrTwice,
		"interface e1 wired address :: address fe80::2":              api.ErrTwice,
		"interface e1 wired address4 :: address fe80::2 address4 ::": api.ErrTwice,
		"interface e1 wired rtt 0 0 0 0 rtt 1 2 3 4":                 api.ErrTwice,
		"filter in if a if b allow":                                  api.ErrTwice,
		// What cannot be read.
		"interface e1 wired cost x":                  api.ErrValue,
		"interface e1 wired cost -1":                 api.ErrValue,
		"interface e1 wired cost 01":                 api.ErrValue,
		"interface e1 wired cost \"\"":               api.ErrValue,
		"interface e1 wired cost 10000000":           api.ErrValue,
		"interface e1 wired cost address":            api.ErrValue,
		"interface e1 wired hello 1.5":               api.ErrValue,
		"interface e1 wired update +1":               api.ErrValue,
		"interface e1 wired mtu 12345678901":         api.ErrValue,
		"interface e1 wired rtt x":                   api.ErrValue,
		"interface e1 wired rtt 1 2 address fe80::2": api.ErrValue,
		"interface e1 wired rtt 1 2 3 cost 5":        api.ErrValue,
		"interface e1 wired address x":               api.ErrValue,
		"interface e1 wired address fe80::2/64":      api.ErrValue,
		"interface e1 wired address cost 5":          api.ErrValue,
		"interface e1 wired address4 10.0.0":         api.ErrValue,
		"filter in dst x deny":                       api.ErrValue,
		"filter in dst ::/0 ge 129 deny":             api.ErrValue,
		"filter in if a/b deny":                      api.ErrValue,
		`filter in if "" allow`:                      api.ErrValue,
		`filter out dst 10.0.0.0/8 if "" deny`:       api.ErrValue,
		"filter in add 65536":                        api.ErrValue,
		"announce metric 5":                          api.ErrValue,
		"announce x metric 5":                        api.ErrValue,
		"announce x":                                 api.ErrValue,
		"announce \"\" metric 5":                     api.ErrValue,
		"announce 10.0.0.1/8 metric 5":               api.ErrValue,
		"announce 10.0.0.0 metric 5":                 api.ErrValue,
		"announce from ::/0 metric 5":                api.ErrValue,
		"announce from from ::/0 metric 5":           api.ErrValue,
		"announce ::/0 from 0.0.0.0/0 metric 5":      api.ErrValue,
		"announce 10.0.0.0/8 from ::/0 metric 5":     api.ErrValue,
		"announce x from ::/0 metric 5":              api.ErrValue,
		"announce ::/0 from x metric 5":              api.ErrValue,
		"announce ::/0 from metric 5":                api.ErrValue,
		"announce ::/0 metric x":                     api.ErrValue,
		"announce ::/0 metric 10000000":              api.ErrValue,
		"limit routes x":                             api.ErrValue,
		"limit routes -5":                            api.ErrValue,
		"limit routes 10000000":                      api.ErrValue,
		// The leftmost of several.
		"interface e1 x cost x":            api.ErrWord,
		"interface e1 wired cost x y":      api.ErrValue,
		"interface e1 wired cost x cost 1": api.ErrValue,
		"interface e1 wired x cost x":      api.ErrWord,
		"interface e1 wired rtt 1 x":       api.ErrValue,
		"announce x y metric 5":            api.ErrValue,
		"announce x from":                  api.ErrWord,
		"announce x from y z":              api.ErrValue,
		"announce ::/0 metric x y":         api.ErrValue,
		"announce ::/0 x metric y":         api.ErrWord,
		"limit x y":                        api.ErrWord,
		"limit routes x y":                 api.ErrValue,
	} {
		refuses(t, short+s, want, 3)
		refuses(t, short+"\n# here\n"+s+"\nlimit routes\nx", want, 5)
	}
}

func TestParseRouterId(t *testing.T) { // P9.4
	for s, want := range map[string]api.Errno{
		"router-id":                           api.ErrWord,
		"router-id x":                         api.ErrValue,
		"router-id x y":                       api.ErrValue,
		"router-id \"\"":                      api.ErrValue,
		"router-id 00:01:02:03:04:05:06:FF":   api.ErrValue,
		"router-id " + idText + " x":          api.ErrWord,
		"router-id " + idText + " " + idText:  api.ErrWord,
		"router-id " + idText + "\nrouter-id": api.ErrTwice,
	} {
		at := 1 + strings.Count(s, "\n")
		refuses(t, s+"\ninterface e0 wired address fe80::1", want, at)
	}
}

func TestParseLimitsAgain(t *testing.T) { // P9.4
	names := []string{"neighbours", "sources", "routes", "requests"}
	all := short
	for i, what := range names {
		all += "limit " + what + " 5\n"
		for _, again := range names[:i+1] {
			for _, behind := range []string{" 5", " 6", "", " x", " 0", " 5 6"} {
				refuses(t, all+"limit "+again+behind, api.ErrTwice, 4+i)
			}
		}
	}
	want := shortConf(t)
	want.Neighbours, want.Sources, want.Routes, want.Requests = 5, 5, 5, 5
	parses(t, all, want)
}

func TestParseAtTheEnd(t *testing.T) { // P9.4
	for s, want := range map[string]api.Errno{
		"":                                   api.ErrWithout,
		"\n\n# nothing\n":                    api.ErrWithout,
		"router-id " + idText:                api.ErrWithout,
		"router-id " + zeroId:                api.ErrWithout,
		"interface e0 wired address fe80::1": api.ErrWithout,
		"limit routes 5":                     api.ErrWithout,
		short + "interface e1 wired":         api.ErrWithout,
		short + "interface e1 wired address4 10.0.0.1 cost 5":                                     api.ErrWithout,
		"interface e1 wired\n" + short:                                                            api.ErrWithout,
		short + "interface e0 wired cost 0":                                                       api.ErrWithout,
		"router-id " + zeroId + "\ninterface e0 wired":                                            api.ErrWithout,
		strings.Repeat("interface e0 wired\n", 20) + "router-id " + idText:                        api.ErrWithout,
		"router-id " + zeroId + "\ninterface e0 wired address fe80::1":                            api.ErrValue,
		"router-id " + otherId + "\ninterface e0 wired address fe80::1":                           api.ErrValue,
		"router-id " + zeroId + "\n" + strings.Repeat("interface e0 wired address fe80::1\n", 17): api.ErrValue,
		"router-id " + idText + "\n" + strings.Repeat("interface e0 wired address fe80::1\n", 17): api.ErrMany,
		"router-id " + idText + "\n" + strings.Repeat("interface e0 wired address fe80::1\n", 16): api.ErrTwice,
		short + strings.Repeat("filter in allow\n", 257):                                          api.ErrMany,
		short + strings.Repeat("announce ::/0 metric 0\n", 257):                                   api.ErrMany,
		short + strings.Repeat("announce ::/0 metric 0\n", 256):                                   api.ErrTwice,
		short + "interface e0 wired address fe80::1":                                              api.ErrTwice,
		short + "interface e0 wireless address fe80::2":                                           api.ErrTwice,
		short + "interface e0 wired cost 0 address fe80::2":                                       api.ErrValue,
		short + "interface e/ wired address fe80::1":                                              api.ErrValue,
		short + "interface \"\" wired address fe80::1":                                            api.ErrValue,
		short + "interface 1234567890123456 wired address fe80::1":                                api.ErrValue,
		short + "interface e1 wired cost 65535 address fe80::1":                                   api.ErrValue,
		short + "interface e1 wired hello 0 address fe80::1":                                      api.ErrValue,
		short + "interface e1 wired hello 15 address fe80::1":                                     api.ErrValue,
		short + "interface e1 wired update 655360 address fe80::1":                                api.ErrValue,
		short + "interface e1 wired update 9999999 address fe80::1":                               api.ErrValue,
		short + "interface e1 wired mtu 63 address fe80::1":                                       api.ErrValue,
		short + "interface e1 wired mtu 65540 address fe80::1":                                    api.ErrValue,
		short + "interface e1 wired address ::":                                                   api.ErrValue,
		short + "interface e1 wired address 10.0.0.1":                                             api.ErrValue,
		short + "interface e1 wired address fe80::1 address4 ::1":                                 api.ErrValue,
		short + "interface e1 wired address fe80::1 rtt 0 0 0 0":                                  api.ErrValue,
		short + "interface e1 wired address fe80::1 rtt 1 2 3 257":                                api.ErrValue,
		short + "announce ::/0 metric 65535":                                                      api.ErrValue,
		short + "announce ::/0 metric 9999999":                                                    api.ErrValue,
		short + "announce ::/0 metric 5\nannounce ::/0 from ::/0 metric 6":                        api.ErrTwice,
		short + "limit neighbours 0":                                                              api.ErrValue,
		short + "limit requests 4097":                                                             api.ErrValue,
		short + "limit routes 0\nannounce ::/0 metric 5\nannounce ::/0 metric 5":                  api.ErrTwice,
	} {
		refuses(t, s, want, 0)
	}
}

func TestParseTellsWhatLinesTell(t *testing.T) { // P9.4
	refuses(t, strings.Repeat("\n", api.MaxText+1), api.ErrLong, 0)
	refuses(t, "x\n"+strings.Repeat("a", api.MaxLine+1), api.ErrLong, 2)
	refuses(t, short+"x\n\x01", api.ErrByte, 4)
	refuses(t, short+"x\n\n\"a", api.ErrQuote, 5)
	parses(t, short+strings.Repeat("\n", api.MaxText-len(short)), shortConf(t))
}

func TestPrint(t *testing.T) { // P9.5
	want := `router-id 00:01:02:03:04:05:06:ff
interface e0 wired cost 96 hello 4000 update 16000 mtu 1280 address fe80::1
interface w.0_A-z wireless cost 300 hello 2000 update 8000 mtu 500 address fe80::a:2 address4 10.0.0.1 rtt 10 20 30 40
filter in if e0 dst 10.0.0.0/8 ge 8 le 24 deny
filter install src 2001:db8::/32 id 01:00:00:00:00:00:00:00 add 7
announce 2001:db8::/32 metric 5
announce ::/0 from 2001:db8::/32 metric 0
limit neighbours 1
limit sources 2
limit routes 3
limit requests 4096
`
	if text := Print(sample(t)); text != want {
		t.Errorf("Print = %s", text)
	}
	parses(t, want, sample(t)) // P9.8
	want = `router-id 00:01:02:03:04:05:06:ff
interface e0 wired cost 96 hello 4000 update 16000 mtu 1280 address fe80::1
limit neighbours 256
limit sources 1024
limit routes 1024
limit requests 256
`
	if text := Print(shortConf(t)); text != want {
		t.Errorf("Print = %s", text)
	}
	c := shortConf(t)
	c.Ifs[0].Rtt = api.Rtt{On: true, Max: 1, Cost: 1, Decay: 1}
	if text := Print(c); !strings.Contains(text, "mtu 1280 address fe80::1 rtt 0 1 1 1\n") {
		t.Errorf("Print = %s", text)
	}
	if text := Print(api.Config{}); text != "" {
		t.Errorf("Print of what may not be = %s", text)
	}
}

func TestPrintOfAsManyAsThereMayBe(t *testing.T) { // P9.8
	c := fill(t, 16, 256, 256)
	parses(t, Print(c), c)
}

func TestSame(t *testing.T) { // P9.7
	if !Same(sample(t), sample(t)) || !Same(api.Config{}, api.Config{}) || Same(api.Config{}, sample(t)) {
		t.Errorf("Same does not know what is the same")
	}
	empty := api.Config{Ifs: []api.IfConf{}, Rules: make([]api.Rule, 0, 5), Locals: []api.Local{}}
	if !Same(api.Config{}, empty) || !Same(empty, api.Config{}) {
		t.Errorf("an empty list is none")
	}
	for i, do := range []func(c *api.Config){
		func(c *api.Config) { c.Id[7] = 0 },
		func(c *api.Config) { c.Ifs[0].Name = "e1" },
		func(c *api.Config) { c.Ifs[1].Kind = 5 },
		func(c *api.Config) { c.Ifs[0].Cost++ },
		func(c *api.Config) { c.Ifs[0].Hello++ },
		func(c *api.Config) { c.Ifs[0].Update++ },
		func(c *api.Config) { c.Ifs[0].Mtu++ },
		func(c *api.Config) { c.Ifs[0].Addr[15]++ },
		func(c *api.Config) { c.Ifs[0].Addr4[15]++ },
		func(c *api.Config) { c.Ifs[1].Rtt.On = false },
		func(c *api.Config) { c.Ifs[1].Rtt.Min++ },
		func(c *api.Config) { c.Ifs[1].Rtt.Max++ },
		func(c *api.Config) { c.Ifs[1].Rtt.Cost++ },
		func(c *api.Config) { c.Ifs[1].Rtt.Decay++ },
		func(c *api.Config) { slices.Reverse(c.Ifs) },
		func(c *api.Config) { c.Ifs = c.Ifs[:1] },
		func(c *api.Config) { c.Ifs = append(c.Ifs, api.IfConf{}) },
		func(c *api.Config) { c.Ifs = nil },
		func(c *api.Config) { c.Rules[0].Chain++ },
		func(c *api.Config) { c.Rules[0].If = "" },
		func(c *api.Config) { c.Rules[0].Dst.Len++ },
		func(c *api.Config) { c.Rules[0].HasDst = false },
		func(c *api.Config) { c.Rules[0].Ge++ },
		func(c *api.Config) { c.Rules[0].Le++ },
		func(c *api.Config) { c.Rules[1].Src.A[0]++ },
		func(c *api.Config) { c.Rules[1].HasSrc = false },
		func(c *api.Config) { c.Rules[1].Id[0] = 0 },
		func(c *api.Config) { c.Rules[0].Deny = false },
		func(c *api.Config) { c.Rules[1].Add++ },
		func(c *api.Config) { slices.Reverse(c.Rules) },
		func(c *api.Config) { c.Rules = c.Rules[:1] },
		func(c *api.Config) { c.Rules = nil },
		func(c *api.Config) { c.Locals[0].Pair.Dst.Len++ },
		func(c *api.Config) { c.Locals[0].Pair.Src.Len++ },
		func(c *api.Config) { c.Locals[1].Metric++ },
		func(c *api.Config) { slices.Reverse(c.Locals) },
		func(c *api.Config) { c.Locals = c.Locals[:1] },
		func(c *api.Config) { c.Locals = nil },
		func(c *api.Config) { c.Neighbours++ },
		func(c *api.Config) { c.Sources++ },
		func(c *api.Config) { c.Routes++ },
		func(c *api.Config) { c.Requests++ },
	} {
		c := sample(t)
		do(&c)
		if Same(c, sample(t)) || Same(sample(t), c) || !Same(c, Copy(c)) {
			t.Errorf("change %d is not seen", i)
		}
	}
}

func TestCopy(t *testing.T) { // P9.7
	for _, c := range []api.Config{sample(t), shortConf(t), {}, {Ifs: []api.IfConf{}, Rules: make([]api.Rule, 0, 9)}, {Id: api.RouterId{1}, Rules: make([]api.Rule, 3), Routes: -5}} {
		if d := Copy(c); !equal(c, d) {
			t.Errorf("Copy(%+v) = %+v", c, d)
		}
	}
}

// spoil changes all of a configuration's lists, their spare room too.
func spoil(c api.Config) {
	for _, l := range [][]api.IfConf{c.Ifs[:cap(c.Ifs)]} {
		for i := range l {
			l[i] = api.IfConf{Name: "spoilt", Cost: -1}
		}
	}
	rules, locals := c.Rules[:cap(c.Rules)], c.Locals[:cap(c.Locals)]
	for i := range rules {
		rules[i] = api.Rule{If: "spoilt"}
	}
	for i := range locals {
		locals[i] = api.Local{Metric: -1}
	}
}

// roomy is the same configuration, its lists with spare room that holds something.
func roomy(t *testing.T) (c, behind api.Config) {
	c = sample(t)
	c.Ifs = append(c.Ifs, api.IfConf{Name: "behind"})
	c.Rules = append(c.Rules, api.Rule{If: "behind"})
	c.Locals = append(c.Locals, api.Local{Metric: 77})
	behind = c
	c.Ifs, c.Rules, c.Locals = c.Ifs[:2], c.Rules[:2], c.Locals[:2]
	return c, behind
}

func TestNothingIsShared(t *testing.T) { // P9.7, and rule 3
	c, behind := roomy(t)
	d, other := Copy(c), Copy(c)
	none := Copy(api.Config{Ifs: c.Ifs[:0], Rules: c.Rules[:0], Locals: c.Locals[:0]})
	spoil(d)
	spoil(none)
	_ = append(d.Ifs, api.IfConf{})
	if !equal(c, sample(t)) || !equal(other, sample(t)) {
		t.Errorf("Copy shares a list")
	}
	if behind.Ifs[2].Name != "behind" || behind.Rules[2].If != "behind" || behind.Locals[2].Metric != 77 {
		t.Errorf("Copy shares spare room")
	}
	spoil(c)
	if !equal(other, sample(t)) {
		t.Errorf("Copy keeps what was handed in")
	}
	text := Print(sample(t))
	a, _, _ := Parse(text)
	b, _, _ := Parse(text)
	spoil(a)
	if !equal(b, sample(t)) {
		t.Errorf("two answers of Parse share a list")
	}
	e, _, _ := Parse(text)
	if !equal(e, sample(t)) {
		t.Errorf("Parse keeps what it told")
	}
}

func TestNothingThatIsHandedInIsChanged(t *testing.T) { // rule 3
	c, behind := roomy(t)
	Check(c)
	Print(c)
	Same(c, c)
	Copy(c)
	for _, r := range c.Rules {
		PrintRule(r)
	}
	if !equal(c, sample(t)) || behind.Ifs[2].Name != "behind" || behind.Rules[2].If != "behind" || behind.Locals[2].Metric != 77 {
		t.Errorf("a configuration that was handed in is changed")
	}
}

func TestExamples(t *testing.T) {
	c, e, at := Parse("router-id 00:00:00:00:00:00:00:01\ninterface e0 wired address fe80::1")
	if e != api.OK || at != 0 || c.Ifs[0].Cost != 96 || c.Ifs[0].Hello != 4000 {
		t.Errorf("%+v, %d, %d", c, e, at)
	}
	refuses(t, "router-id 00:00:00:00:00:00:00:01\ninterface e0 wired", api.ErrWithout, 0)
	refuses(t, "router-id 00:00:00:00:00:00:00:01\ninterface e0 wired cost 0 address fe80::1", api.ErrValue, 0)
	c, _, _ = Parse(short + "filter in if e0 dst 10.0.0.0/8 le 24 deny")
	if len(c.Rules) != 1 || c.Rules[0].Ge != 8 || c.Rules[0].Le != 24 {
		t.Errorf("%+v", c.Rules)
	}
}
