package conf

import (
	"strconv"
	"strings"

	"culvert/addr"
	"culvert/api"
	"culvert/words"
)

// kinds are the words for an interface's kinds, each at its number.
func kinds() []string {
	return []string{api.Wired: "wired", api.Wireless: "wireless"}
}

// Print writes a configuration so that Parse reads it again (P9.5).
func Print(c api.Config) string {
	if Check(c) != api.OK {
		return ""
	}
	l := []string{"router-id " + words.PrintId(c.Id)}
	for _, f := range c.Ifs {
		l = append(l, printIf(f))
	}
	for _, r := range c.Rules {
		l = append(l, "filter "+PrintRule(r))
	}
	for _, a := range c.Locals {
		l = append(l, "announce "+addr.PrintPair(a.Pair)+" metric "+strconv.Itoa(a.Metric))
	}
	l = append(l,
		"limit neighbours "+strconv.Itoa(c.Neighbours),
		"limit sources "+strconv.Itoa(c.Sources),
		"limit routes "+strconv.Itoa(c.Routes),
		"limit requests "+strconv.Itoa(c.Requests))
	return strings.Join(l, "\n") + "\n"
}

func printIf(f api.IfConf) string {
	l := []string{"interface", f.Name, kinds()[f.Kind], "cost", strconv.Itoa(f.Cost), "hello", strconv.Itoa(f.Hello), "update", strconv.Itoa(f.Update), "mtu", strconv.Itoa(f.Mtu), "address", addr.Print(f.Addr)}
	if f.Addr4 != (api.Addr{}) {
		l = append(l, "address4", addr.Print(f.Addr4))
	}
	if f.Rtt.On {
		l = append(l, "rtt", strconv.Itoa(f.Rtt.Min), strconv.Itoa(f.Rtt.Max), strconv.Itoa(f.Rtt.Cost), strconv.Itoa(f.Rtt.Decay))
	}
	return words.Join(l...)
}
