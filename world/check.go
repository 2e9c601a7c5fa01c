package world

import (
	"slices"
	"strings"

	"lispprover/api"
	"lispprover/symbol"
	"lispprover/term"
)

// maxStobjFunctions is how many functions the entry of a single-threaded object may have.
const maxStobjFunctions = 40

// Check returns the first error of an entry e that is to be added to w, or OK.
func Check(w []api.Entry, e api.Entry) api.Errno {
	return additionOf(followed(w, e)).check()
}

// followed returns w followed by e, in new memory.
func followed(w []api.Entry, e api.Entry) []api.Entry {
	return append(slices.Clip(w), e)
}

// addition is an entry that is to be added to a world.
type addition struct {
	before []api.Entry // the world without the entry
	after  []api.Entry // the world with the entry
	entry  *api.Entry
}

// additionOf returns the addition of the last entry of after.
func additionOf(after []api.Entry) *addition {
	last := len(after) - 1
	return &addition{before: after[:last], after: after, entry: &after[last]}
}

// check returns the first error of the entry, or OK.
func (a *addition) check() api.Errno {
	switch {
	case len(a.before) >= api.MaxEntries:
		return api.ErrLimit
	case a.entry.Kind < api.EntryPackage || a.entry.Kind > api.EntryLabel:
		return api.ErrKind
	case !symbol.Valid(a.entry.Name):
		return api.ErrName
	case Taken(a.before, a.entry.Name):
		return api.ErrDuplicate
	case hasForeignFields(*a.entry):
		return api.ErrForm
	}
	return a.checkKind()
}

// checkKind returns the first error that depends on the kind of the entry, or OK.
func (a *addition) checkKind() api.Errno {
	switch a.entry.Kind {
	case api.EntryPackage:
		return a.checkPackage()
	case api.EntryMacro:
		return a.checkMacro()
	case api.EntryFunctions:
		return a.checkDefinitions()
	case api.EntryTheorem:
		return a.checkTheorem()
	case api.EntryEncapsule:
		return a.checkEncapsule()
	case api.EntryChoice:
		return a.checkChoice()
	case api.EntryStobj:
		return a.checkStobj()
	case api.EntryTheory:
		return a.checkTheory()
	case api.EntryBook:
		return a.checkBook()
	}
	return api.OK
}

func (a *addition) checkPackage() api.Errno {
	p := a.entry.Package
	if _, err := symbol.Define(Packages(a.before), p); err != api.OK {
		return err
	}
	if a.entry.Name != lisp(p.Name+"-package") {
		return api.ErrName
	}
	return api.OK
}

func (a *addition) checkMacro() api.Errno {
	m := &a.entry.Macro
	if m.Name != a.entry.Name {
		return api.ErrName
	}
	if err := checkParams(m.Params); err != api.OK {
		return err
	}
	if m.Rest && len(m.Params) == 0 {
		return api.ErrForm
	}
	return checkClosed(a.before, m.Body, m.Params)
}

func (a *addition) checkDefinitions() api.Errno {
	l := a.entry.Functions
	if len(l) < 1 || len(l) > api.MaxClique {
		return api.ErrLimit
	}
	if err := a.checkFunctions(api.Defined); err != api.OK {
		return err
	}
	if a.entry.Name != l[0].Name {
		return api.ErrName
	}
	return api.OK
}

func (a *addition) checkTheorem() api.Errno {
	if len(a.entry.Formulas) != 1 {
		return api.ErrForm
	}
	return a.checkFormulas()
}

func (a *addition) checkEncapsule() api.Errno {
	if len(a.entry.Functions) < 1 || len(a.entry.Functions) > api.MaxClique {
		return api.ErrLimit
	}
	if err := a.checkFunctions(api.Constrained); err != api.OK {
		return err
	}
	if err := a.checkFormulas(); err != api.OK {
		return err
	}
	if len(a.entry.Local) > api.MaxEntries {
		return api.ErrLimit
	}
	return api.OK
}

func (a *addition) checkChoice() api.Errno {
	if len(a.entry.Functions) != 1 || len(a.entry.Formulas) != 1 {
		return api.ErrForm
	}
	if err := a.checkFunctions(api.Choice); err != api.OK {
		return err
	}
	if err := a.checkFormulas(); err != api.OK {
		return err
	}
	if a.entry.Name != a.entry.Functions[0].Name {
		return api.ErrName
	}
	return api.OK
}

func (a *addition) checkStobj() api.Errno {
	if len(a.entry.Functions) < 1 || len(a.entry.Functions) > maxStobjFunctions {
		return api.ErrLimit
	}
	if err := a.checkFunctions(api.Defined); err != api.OK {
		return err
	}
	if a.entry.Stobj.Name != a.entry.Name {
		return api.ErrName
	}
	return api.OK
}

func (a *addition) checkTheory() api.Errno {
	for _, name := range slices.Concat(a.entry.Enabled, a.entry.Disabled) {
		if !Taken(a.before, name) {
			return api.ErrName
		}
	}
	return api.OK
}

func (a *addition) checkBook() api.Errno {
	if len(a.entry.Text) < 1 || len(a.entry.Text) > api.MaxText {
		return api.ErrForm
	}
	return api.OK
}

// checkFunctions returns the first error of the functions of the entry, which must be of this class, or OK.
func (a *addition) checkFunctions(class int) api.Errno {
	l := a.entry.Functions
	for i := range l {
		if err := a.checkHead(l[:i], &l[i], class); err != api.OK {
			return err
		}
	}
	for i := range l {
		if err := a.checkTerms(&l[i]); err != api.OK {
			return err
		}
	}
	return api.OK
}

// checkHead returns the first error of the name, the class and the parameters of a function that comes after the earlier ones, or OK.
func (a *addition) checkHead(earlier []api.Function, f *api.Function, class int) api.Errno {
	switch {
	case !symbol.Valid(f.Name):
		return api.ErrName
	case Taken(a.before, f.Name) || hasFunction(earlier, f.Name):
		return api.ErrDuplicate
	case f.Class != class:
		return api.ErrKind
	}
	return checkParams(f.Params)
}

// checkTerms returns the first error of the terms of a function, or OK.
func (a *addition) checkTerms(f *api.Function) api.Errno {
	if err := checkClosed(a.after, f.Guard, f.Params); err != api.OK {
		return err
	}
	if f.Class != api.Defined {
		if !isZero(f.Body) || !isZero(f.Measure) {
			return api.ErrForm
		}
		return api.OK
	}
	if err := checkClosed(a.after, f.Body, f.Params); err != api.OK {
		return err
	}
	if isZero(f.Measure) {
		return api.OK
	}
	return checkClosed(a.after, f.Measure, f.Params)
}

// checkFormulas returns the first error of the formulas of the entry, or OK.
func (a *addition) checkFormulas() api.Errno {
	if len(a.entry.Formulas) > api.MaxFormula {
		return api.ErrLimit
	}
	for _, formula := range a.entry.Formulas {
		if err := checkTerm(a.after, formula); err != api.OK {
			return err
		}
	}
	return api.OK
}

// checkTerm returns the first error of a term in w, or OK.
func checkTerm(w []api.Entry, t api.Term) api.Errno {
	if !term.Valid(t) {
		return api.ErrForm
	}
	return Known(w, t)
}

// checkClosed returns the first error of a term in w whose variables must be among params, or OK.
func checkClosed(w []api.Entry, t api.Term, params []api.Symbol) api.Errno {
	if err := checkTerm(w, t); err != api.OK {
		return err
	}
	if !Closed(t, params) {
		return api.ErrUnbound
	}
	return api.OK
}

// checkParams returns the first error of parameters, or OK.
func checkParams(params []api.Symbol) api.Errno {
	if len(params) > api.MaxParams {
		return api.ErrLimit
	}
	for i, p := range params {
		if !isParam(p) {
			return api.ErrName
		}
		if slices.Contains(params[:i], p) {
			return api.ErrDuplicate
		}
	}
	return api.OK
}

// isParam reports whether s may be the name of a parameter.
func isParam(s api.Symbol) bool {
	return symbol.Valid(s) && s != lisp("nil") && s != lisp("t") && !strings.HasPrefix(s.Name, "?")
}

// isZero reports whether t is the zero term.
func isZero(t api.Term) bool {
	return term.Equal(t, api.Term{})
}
