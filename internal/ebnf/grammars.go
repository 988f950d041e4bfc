package ebnf

// The grammars of the chapters, which can be put together: where two of them have rules of one name, one of these has another name.
const (
	Expressions = `
expression = xor { "or" xor }          xor = and { "xor" and }          and = equal { "and" equal }
equal = order { ( "=" | "<>" ) order }          order = sum { ( "<" | "<=" | ">" | ">=" ) sum }
sum = product { ( "+" | "-" ) product }          product = unary { ( "*" | "/" | "mod" ) unary }
unary = ( "not" | "-" ) unary | constant | N [ "." N | "[" expression "]" | "(" [ expression { "," expression } ] ")" ] | "(" expression ")"
constant = I | T | "true" | "false"
`

	// Statements needs Expressions. The by of a for (J) is not 0.
	Statements = `
text = { statement }
statement = N [ "[" expression "]" ] ":=" expression ";"
          | N "(" [ N ":=" expression { "," N ":=" expression } ] ")" ";"
          | "if" expression "then" text { "elsif" expression "then" text } [ "else" text ] "end_if" ";"
          | "case" expression "of" { label { "," label } ":" text } [ "else" text ] "end_case" ";"
          | "for" N ":=" expression "to" expression [ "by" [ "-" ] J ] "do" text "end_for" ";"
          | "while" expression "do" text "end_while" ";"
          | "repeat" text "until" expression "end_repeat" ";"
          | "exit" ";" | "return" ";"
label = [ "-" ] I
`

	// Lists needs Expressions.
	Lists = `
list = { [ N ":" ] line ";" }
line = ( "ld" | "ldn" ) expression | ( "st" | "stn" | "set" | "reset" ) N | "not" | ")"
     | operator expression | operator "(" | ( "jmp" | "jmpc" | "jmpcn" ) N
     | ( "cal" | "calc" | "calcn" ) N [ "(" [ N ":=" expression { "," N ":=" expression } ] ")" ] | "ret" | "retc" | "retcn"
operator = "and" | "andn" | "or" | "orn" | "xor" | "xorn" | "add" | "sub" | "mul" | "div" | "mod" | "gt" | "ge" | "eq" | "ne" | "le" | "lt"
`

	// Ladders needs Expressions.
	Ladders = `
ladder = { rung }
rung = "rung" [ N ] ":" power "->" coil { "," coil } ";"
power = series { "|" series }          series = element { "&" element }
element = "true" | N | ( "/" | "+" | "-" ) N | "[" expression "]" | "(" power ")"
        | "box" N "(" N [ "," N ":=" expression { "," N ":=" expression } ] ")" "." N
coil = N | ( "/" | "+" | "-" | "set" | "reset" | "jump" ) N | "return"
`

	// Diagrams needs Expressions. Its operators are operations.
	Diagrams = `
diagram = { node ";" }
node = I ":" "not" "(" pin ")"
     | I ":" operation "(" pin "," pin ")"
     | I ":" N "(" [ N ":=" pin { "," N ":=" pin } ] ")" "." N
     | N ":=" pin
pin = [ "/" ] ( ":" I | expression )
operation = "and" | "or" | "xor" | "add" | "sub" | "mul" | "div" | "mod" | "gt" | "ge" | "eq" | "ne" | "le" | "lt"
`

	// Charts needs Statements and Expressions.
	Charts = `
chart = { part }
part = [ "initial" ] "step" N [ "macro" N ] { "do" action } ";"
     | "from" N { "," N } "to" N { "," N } "when" expression ";"
     | "macro" N "(" N "," N ")" chart "end" ";"
action = ( "while" | "set" | "reset" | "enter" | "leave" ) ( N | "(" text ")" ) | ( "limit_" | "delay" ) T ( N | "(" text ")" )
`

	// Projects needs all of the others. Its labels are values.
	Projects = `
project = { unit | task }
unit = ( "program" N | "block" N | "function" N ":" ( "bool" | "int" | "time" ) ) { section } body "end"
section = ( "input" | "output" | "local" | "retain" ) { N type [ ":=" value { "," value } ] [ "at" A ] ";" }
type = ( "bool" | "int" | "time" ) [ "[" I "]" ] | N
value = [ "-" ] I | T | "true" | "false"
body = "st" text | "il" list | "ld" ladder | "fbd" diagram | "sfc" chart
task = "task" N "every" T [ "phase" T ] "priority" I "run" N { "," N } ";"
`
)
