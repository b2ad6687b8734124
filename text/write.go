package text

import (
	"strconv"
	"strings"

	"grommet/code"
	"grommet/conv"
	"grommet/module"
	"grommet/types"
)

// lines are those written so far.
type lines []string

// add adds a line of words.
func (l *lines) add(words ...string) {
	*l = append(*l, strings.Join(words, " "))
}

// write is the lines of a module that has some.
func write(m *module.Module) []string {
	var l lines
	l.funcs(m)
	l.store(m)
	for _, x := range m.Exports {
		l.add(exportWord, x.Name, kinds()[x.Kind], strconv.Itoa(x.Index))
	}
	if m.Start != module.NoStart {
		l.add(startWord, strconv.Itoa(m.Start))
	}
	l.contents(m)
	return l
}

// funcs adds signatures, imports, and functions with their bodies.
func (l *lines) funcs(m *module.Module) {
	for _, s := range m.Sigs {
		l.add(sigWord, s.Print())
	}
	for _, x := range m.Imports {
		l.add(importWord, x.Module, x.Name, strconv.Itoa(x.Sig))
	}
	for _, f := range m.Funcs {
		l.add(funcWord, strconv.Itoa(f.Sig))
		for _, s := range code.Print(f.Body) {
			l.add(strings.TrimLeft(s, " "))
		}
	}
}

// store adds the table, memories and globals.
func (l *lines) store(m *module.Module) {
	if m.Table != module.NoTable {
		l.add(tableWord, strconv.Itoa(m.Table))
	}
	for _, x := range m.Mems {
		l.add(memWord, x.Print())
	}
	for _, x := range m.Globals {
		change := constant
		if x.Mutable {
			change = variable
		}
		l.add(globalWord, types.Name(x.Type), change, conv.Print(types.Bits(x.Type), x.Value))
	}
}

// contents adds elements and data.
func (l *lines) contents(m *module.Module) {
	for _, x := range m.Elems {
		words := []string{elemWord, tens(x.At)}
		for _, f := range x.Funcs {
			words = append(words, strconv.Itoa(f))
		}
		l.add(words...)
	}
	for _, x := range m.Datas {
		l.add(dataWord, strconv.Itoa(x.Mem), tens(x.At), bytesAre+hex(x.Bytes))
	}
}

// tens is a number's text, without a sign.
func tens(n uint64) string {
	return strconv.FormatUint(n, 10)
}

// hex is bytes' digits, two each.
func hex(b []byte) string {
	out := make([]byte, 0, 2*len(b))
	for _, c := range b {
		out = append(out, digits[c>>4], digits[c&15])
	}
	return string(out)
}
