package world

import "lispprover/api"

// hasForeignFields reports whether a field of e that its kind does not use is not zero or empty.
func hasForeignFields(e api.Entry) bool {
	switch e.Kind {
	case api.EntryPackage:
		e.Package = api.Package{}
	case api.EntryMacro:
		e.Macro = api.Macro{}
	case api.EntryFunctions:
		e.Functions, e.Logs = nil, nil
	case api.EntryTheorem:
		e.Formulas, e.Logs, e.Rules = nil, nil, nil
	case api.EntryEncapsule:
		e.Functions, e.Formulas, e.Local = nil, nil, nil
	case api.EntryChoice:
		e.Functions, e.Formulas = nil, nil
	case api.EntryStobj:
		e.Stobj, e.Functions = api.Stobj{}, nil
	case api.EntryTheory:
		e.Enabled, e.Disabled = nil, nil
	case api.EntryBook:
		e.Text, e.Hash = "", 0
	}
	return !isBlank(&e)
}

// isBlank reports whether e has nothing but a kind and a name.
func isBlank(e *api.Entry) bool {
	return hasNoParts(e) && isNoMacro(&e.Macro) && e.Package.Name == "" && e.Stobj.Name == api.Symbol{} && e.Text == "" && e.Hash == 0
}

// hasNoParts reports whether all lists of e are empty, except those of its macro.
func hasNoParts(e *api.Entry) bool {
	return len(e.Functions) == 0 && len(e.Formulas) == 0 && len(e.Logs) == 0 && len(e.Local) == 0 && len(e.Rules) == 0 &&
		len(e.Enabled) == 0 && len(e.Disabled) == 0 && len(e.Package.Imports) == 0 && len(e.Stobj.Fields) == 0
}

// isNoMacro reports whether all fields of m are zero or empty.
func isNoMacro(m *api.Macro) bool {
	return m.Name == api.Symbol{} && len(m.Params) == 0 && !m.Rest && isZero(m.Body)
}
